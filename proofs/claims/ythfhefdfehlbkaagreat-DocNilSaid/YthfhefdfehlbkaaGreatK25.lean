/-
  MAPS by the steps of a walk; a whole struct into a new block: beside what BtMem has.
  No conditions.
  MAPS WHOSE KEYS ARE ROWS OF NUMBERS (structs of integers, flat), whatever they hold: look-ups, stores, a range over one.
  No conditions.
  THE REGISTERS' NAMES AS KEYS: a node and a property; a node; a node, a path and a property; what the tables say of the three maps.
  No conditions.
  A MAP OF REGISTERS in memory: what it tells at a name, what a write leaves.
  No conditions but that words hold a name's numbers.
  TWO MAPS OF REGISTERS: does each of the one have the other's value? A copy of one.
  No conditions.
  THE NAME of a path's register: what overrideOf answers.
  No conditions.
-/
import Derived.Test.YthfhefdfehlbkaaGreatSh
import Derived.Test.YthfhefdfehlbkaaGreatK04
import Derived.Deep.MidRow
import Derived.Deep.RegionHeld
import Derived.Deep.RegionHeld3
import Derived.Laws.Tables
import Derived.Maps.Views
import Derived.Maps.OwnOps
import Derived.DeepKeys4
import Derived.Test.YthfhefdfehlbkaaGreatK11
import Derived.Test.YthfhefdfehlbkaaGreatK13
import Derived.Laws.IdiomRangeMap
import Derived.Test.YthfhefdfehlbkaaGreatK01
import Derived.Shelf.SlMaps.Clone
import Derived.Laws.CopyOwn
set_option maxRecDepth 100000
set_option maxHeartbeats 2000000
namespace Go.Proofs.YthfhefdfehlbkaaGreat
open Go.RowKit
open Go.Maps (Keyed)
theorem Turns.call {G:Nat→Prop} {a b c:World} (h:Turns G a b) (hb:Below b.heap.size b c):Turns G a c:=h.trans (Turns.of_below hb)
open Go.RowKit
open Go.Maps (Keyed)
abbrev kV (x:Pm.Nm):Value:=.agg (x.map fun i=>Value.int .i64 i).toArray
def KWf (n:Nat) (x:Pm.Nm):Prop:=x.length=n∧∀ i ∈ x,(Lit.int .i64 i).wf=true
theorem kV_inj {x y:Pm.Nm} (h:kV x=kV y):x=y:=by
 simp only [kV,Value.agg.injEq] at h
 have h4:=congrArg Array.toList h
 simp only at h4
 exact (List.map_inj_right (fun a b e=>by cases e; rfl)).1 h4
structure KT (kt:TypeId) (n:Nat):Prop where
 law:Keyed Tryz.prog kt
 key:∀ x,KWf n x→∃ l,keyOf Tryz.prog kt (kV x)=some l
def plk (l:List (Pm.Nm × Value)) (x:Pm.Nm):Option Value:=(l.find? fun e=>e.1 == x).map (·.2)
theorem plk_none {l:List (Pm.Nm × Value)} {x:Pm.Nm}:plk l x=none ↔ ∀ e ∈ l,e.1≠x:=by
 unfold plk
 rw [Option.map_eq_none_iff,List.find?_eq_none]
 simp
theorem plk_some {l:List (Pm.Nm × Value)} (nd:(l.map Prod.fst).Nodup) {x:Pm.Nm} {v:Value} (h:(x,v) ∈ l):plk l x=some v:=by
 induction l with
 | nil=>cases h
 | cons a T ih =>
  rw [List.map_cons,List.nodup_cons] at nd
  unfold plk
  rw [List.find?_cons]
  by_cases e:a.1=x
  ·rw [show (a.1 == x)=true by simpa using e]
   rcases List.mem_cons.1 h with rfl | h
   ·rfl
   ·exact absurd (List.mem_map.2 ⟨_,h,rfl⟩) (by rw [e] at nd; exact nd.1)
  ·rw [show (a.1 == x)=false by simpa using e]
   rcases List.mem_cons.1 h with rfl | h
   ·exact absurd rfl e
   ·exact ih nd.2 h
theorem plk_mem {l:List (Pm.Nm × Value)} {x:Pm.Nm} {v:Value} (h:plk l x=some v):(x,v) ∈ l:=by
 unfold plk at h
 obtain ⟨e,he,rfl⟩:=Option.map_eq_some_iff.1 h
 have h1:=List.find?_some he
 have h2:=List.mem_of_find?_eq_some he
 have h3:e.1=x:=by simpa using h1
 subst h3
 exact h2
def PEntsAre (es:List MapEntry) (l:List (Pm.Nm × Value)):Prop:=es.map (fun e=>(e.key,e.val))=l.map fun b=>(kV b.1,b.2)
def GMap (nk:Nat) (w:World) (M:Nat) (l:List (Pm.Nm × Value)):Prop :=
 ∃ es clock,w.heap[M]?=some (.map es clock)∧PEntsAre es.toList l∧(∀ b ∈ l,KWf nk b.1)∧(l.map Prod.fst).Nodup∧(∀ e ∈ es.toList,e.born<clock)∧(es.toList.map (·.born)).Nodup
section
variable {w w':World} {M nk:Nat} {kt:TypeId} {l:List (Pm.Nm × Value)}
theorem GMap.lt (h:GMap nk w M l):M<w.heap.size:=by
 obtain ⟨es,clock,hb,-⟩:=h
 exact (Array.getElem?_eq_some_iff.1 hb).1
theorem GMap.block (h:GMap nk w M l) (e:w'.heap[M]?=w.heap[M]?):GMap nk w' M l:=by
 obtain ⟨es,clock,hb,h1⟩:=h
 exact ⟨es,clock,e.trans hb,h1⟩
theorem GMap.turns {G:Nat→Prop} (h:GMap nk w M l) (ht:Turns G w w') (hd:¬ G M):GMap nk w' M l:=h.block (ht.block M h.lt hd)
theorem GMap.below (h:GMap nk w M l) (hb:Below w.heap.size w w'):GMap nk w' M l:=h.block (hb.block M h.lt)
theorem GMap.made (nk:Nat) (w:World):GMap nk (w.alloc (.map #[] 0)) w.heap.size []:=⟨#[],0,heap_alloc_new w _,rfl,fun _ h=>(by cases h),List.nodup_nil,fun _ h=>(by cases h),List.nodup_nil⟩
theorem PEntsAre.mem {es:List MapEntry} (he:PEntsAre es l) {e0:MapEntry} (hm:e0 ∈ es):∃ b ∈ l,e0.key=kV b.1∧e0.val=b.2:=by
 have:(e0.key,e0.val) ∈ l.map fun b=>(kV b.1,b.2):=by rw [← he]; exact List.mem_map.2 ⟨e0,hm,rfl⟩
 obtain ⟨b,hb,e'⟩:=List.mem_map.1 this
 simp only [Prod.mk.injEq] at e'
 exact ⟨b,hb,e'.1.symm,e'.2.symm⟩
theorem PEntsAre.of {es:List MapEntry} (he:PEntsAre es l) {b:Pm.Nm × Value} (hb:b ∈ l):∃ e0 ∈ es,e0.key=kV b.1∧e0.val=b.2:=by
 have:(kV b.1,b.2) ∈ es.map fun e=>(e.key,e.val):=by rw [he]; exact List.mem_map.2 ⟨b,hb,rfl⟩
 obtain ⟨e,hm,e'⟩:=List.mem_map.1 this
 simp only [Prod.mk.injEq] at e'
 exact ⟨e,hm,e'.1,e'.2⟩
theorem PEntsAre.keys (K:KT kt nk) {es:List MapEntry} (he:PEntsAre es l) (hw:∀ b ∈ l,KWf nk b.1):∀ e ∈ es,∃ k,keyOf Tryz.prog kt e.key=some k:=by
 intro e hm
 obtain ⟨b,hb,h1,-⟩:=he.mem hm
 rw [h1]
 exact K.key _ (hw b hb)
theorem GMap.find (K:KT kt nk) (h:GMap nk w M l) (x:Pm.Nm) (hx:KWf nk x):∃ es clock,w.heap[M]?=some (.map es clock)∧(∀ W em,(Instr.checkKey em 10000 kt (kV x)).run Tryz.prog W=.ok () W) ∧
  ((plk l x=none∧(Instr.findKey kt (kV x) es.toList).run Tryz.prog w=.ok none w) ∨
   ∃ v j,plk l x=some v∧(Instr.findKey kt (kV x) es.toList).run Tryz.prog w=.ok (some (j,v)) w):=by
 obtain ⟨es,clock,hb,he,hwf,hnd,-,-⟩:=h
 obtain ⟨kl,hkey⟩:=K.key x hx
 refine ⟨es,clock,hb,fun W em=>K.law.check W em hkey,?_⟩
 rcases K.law.find w hkey es.toList (he.keys K hwf) with ⟨h1,h2⟩ | ⟨j,e0,h1,h2,h3⟩
 ·refine Or.inl ⟨plk_none.2 fun e hm hh=>?_,h1⟩
  obtain ⟨e0,h3,h4,-⟩:=he.of hm
  exact h2 e0 h3 (by rw [h4,hh])
 ·obtain ⟨b,hb',h4,h5⟩:=he.mem (List.mem_of_getElem? h2)
  have hbx:b.1=x:=kV_inj (h4.symm.trans h3)
  subst hbx
  exact Or.inr ⟨e0.val,j,by rw [h5]; exact plk_some hnd hb',h1⟩
structure GT (kt:TypeId) (nk:Nat) (mt et:TypeId) (z:Value):Prop where
 k:KT kt nk
 und:Tryz.prog.underlying mt=some (.map kt et)
 zero:∀ w,(zeroValue et).run Tryz.prog w=.ok z w
variable {mt et:TypeId} {z:Value}
theorem GMap.look (h:GMap nk w M l) (T:GT kt nk mt et z) (x:Pm.Nm) (hx:KWf nk x):(Instr.lookup mt (.map (some M)) (kV x) false).run Tryz.prog w=.ok ((plk l x).getD z) w:=by
 obtain ⟨es,clock,hb,hc,h1 | ⟨v,j,h1,h2⟩⟩:=h.find T.k x hx
 ·simp [Instr.lookup,run_underlying T.und,MapKept.run_getObj_map hb,hc,h1.1,h1.2,T.zero,Result.andThen]
 ·simp [Instr.lookup,run_underlying T.und,MapKept.run_getObj_map hb,hc,h1,h2,Result.andThen]
theorem GMap.upd (h:GMap nk w M l) (T:GT kt nk mt et z) (x:Pm.Nm) (v:Value) (hx:KWf nk x) (hn:plk l x=none) :
  ∃ w',(Instr.mapUpdate mt (.map (some M)) (kV x) v).run Tryz.prog w=.ok () w'∧GMap nk w' M (l ++ [(x,v)])∧Turns (fun k=>k=M) w w'∧w'.heap.size=w.heap.size:=by
 obtain ⟨es0,clock0,hb0,hc,h1 | ⟨v',j,h1,-⟩⟩:=h.find T.k x hx
 ·obtain ⟨es,clock,hb,he,hwf,hnd,hf1,hf2⟩:=h
  obtain ⟨rfl,rfl⟩:es0=es∧clock0=clock:=by rw [hb] at hb0; cases hb0; exact ⟨rfl,rfl⟩
  refine ⟨Go.ChangeMaps.setBlock w M (.map (es0.push ⟨kV x,v,clock0⟩) (clock0+1)),?_,⟨_,_,Go.ChangeMaps.heap_setBlock_same hb _,?_,?_,?_,?_,?_⟩,setBlock_turns hb _,by simp [Go.ChangeMaps.setBlock]⟩
  ·simp [Instr.mapUpdate,run_underlying T.und,MapKept.run_getObj_map hb,hc,h1.2,MapKept.run_setObj_map _ hb,Result.andThen,Go.ChangeMaps.setBlock]
  ·unfold PEntsAre at he ⊢
   simp [he]
  ·intro e hm
   rcases List.mem_append.1 hm with hm | hm
   ·exact hwf e hm
   ·obtain rfl:=List.mem_singleton.1 hm
    exact hx
  ·rw [List.map_append]
   refine List.nodup_append.2 ⟨hnd,by simp,fun a ha b hb e=>?_⟩
   obtain ⟨y,hy,rfl⟩:=List.mem_map.1 ha
   have:b=x:=by simpa using hb
   subst this
   exact plk_none.1 hn y hy e
  ·intro e hm
   rw [Array.toList_push] at hm
   rcases List.mem_append.1 hm with hm | hm
   ·have:=hf1 e hm
    omega
   ·obtain rfl:=List.mem_singleton.1 hm
    exact Nat.lt_succ_self _
  ·rw [Array.toList_push,List.map_append]
   refine List.nodup_append.2 ⟨hf2,by simp,fun x hx y hy e=>?_⟩
   obtain ⟨q,hq,rfl⟩:=List.mem_map.1 hx
   have h1:=hf1 q hq
   have h2:y=clock0:=by simpa using hy
   omega
 ·rw [hn] at h1; cases h1
theorem GMap.set (h:GMap nk w M l) (T:GT kt nk mt et z) (x:Pm.Nm) (v:Value) (hx:KWf nk x) (hm:(plk l x).isSome=true) :
  ∃ w',(Instr.mapUpdate mt (.map (some M)) (kV x) v).run Tryz.prog w=.ok () w'∧GMap nk w' M (l.map fun e=>if e.1=x then (x,v) else e)∧Turns (fun k=>k=M) w w'∧w'.heap.size=w.heap.size:=by
 obtain ⟨es,clock,hb,he,hwf,hnd,hf1,hf2⟩:=h
 obtain ⟨kl,hkey⟩:=T.k.key x hx
 rcases T.k.law.find w hkey es.toList (he.keys T.k hwf) with ⟨h1,h2⟩ | ⟨j,e0,h1,h2,h3⟩
 ·obtain ⟨u,hu⟩:=Option.isSome_iff_exists.1 hm
  obtain ⟨e0,h3,h4,-⟩:=he.of (plk_mem hu)
  exact absurd h4 (h2 e0 h3)
 ·have hjl:j<es.toList.length:=(List.getElem?_eq_some_iff.1 h2).1
  have hjs:j<es.size:=by simpa using hjl
  have hll:l.length=es.toList.length:=by have:=congrArg List.length he; simpa using this.symm
  obtain ⟨a,hja⟩:∃ a,l[j]?=some a:=⟨_,List.getElem?_eq_getElem (by omega)⟩
  have hax:a.1=x:=by
   have h6:(es.toList.map fun e=>(e.key,e.val))[j]?=(l.map fun b=>(kV b.1,b.2))[j]?:=by rw [he]
   rw [List.getElem?_map,List.getElem?_map,h2,hja] at h6
   simp only [Option.map_some,Option.some.injEq,Prod.mk.injEq] at h6
   exact kV_inj (h6.1.symm.trans h3)
  have hj0:es[j]?=some e0:=by rw [← Array.getElem?_toList]; exact h2
  refine ⟨Go.ChangeMaps.setBlock w M (.map (es.setIfInBounds j { e0 with val:=v }) clock),?_,⟨_,_,Go.ChangeMaps.heap_setBlock_same hb _,?_,?_,?_,?_,?_⟩,setBlock_turns hb _,by simp [Go.ChangeMaps.setBlock]⟩
  ·have e1:es.modify j (fun e=>{ key:=kV x,val:=v,born:=e.born })=es.setIfInBounds j { e0 with val:=v }:=by
    apply Array.toList_inj.1
    rw [Array.toList_modify,Array.toList_setIfInBounds,List.modify_eq_set,h2,← h3]
    rfl
   have e2:(Option.map (fun x:MapEntry=>x.key) es[j]?).getD (kV x)=kV x:=by rw [hj0]; exact h3
   simp [Instr.mapUpdate,run_underlying T.und,MapKept.run_getObj_map hb,T.k.law.check w _ hkey,h1,MapKept.run_setObj_map _ hb,Result.andThen,Go.ChangeMaps.setBlock,e1,e2,T.k.law.stays w hkey]
  ·unfold PEntsAre at he ⊢
   rw [Array.toList_setIfInBounds]
   apply List.ext_getElem?
   intro i
   rw [List.getElem?_map,List.getElem?_set,List.getElem?_map,List.getElem?_map]
   have h6:(es.toList.map fun e=>(e.key,e.val))[i]?=(l.map fun b=>(kV b.1,b.2))[i]?:=by rw [he]
   rw [List.getElem?_map,List.getElem?_map] at h6
   by_cases hij:j=i
   ·subst hij
    rw [if_pos rfl,if_pos hjl,hja]
    simp only [Option.map_some,if_pos hax,h3]
   ·rw [if_neg hij]
    cases hi:l[i]? with
    | none=>rw [hi] at h6; exact h6
    | some b =>
     rw [hi] at h6
     rw [h6]
     have hne:¬ b.1=x:=fun e=>by
      obtain ⟨hil,hib⟩:=List.getElem?_eq_some_iff.1 hi
      obtain ⟨hjl2,hja2⟩:=List.getElem?_eq_some_iff.1 hja
      have hap:=List.pairwise_iff_getElem.1 (List.pairwise_map.1 hnd)
      rcases Nat.lt_or_ge i j with hlt | hge
      ·exact hap i j hil hjl2 hlt (by rw [hib,hja2,e,hax])
      ·exact hap j i hjl2 hil (by omega) (by rw [hib,hja2,e,hax])
     simp only [Option.map_some,if_neg hne]
  ·intro e hm'
   obtain ⟨b,hb',rfl⟩:=List.mem_map.1 hm'
   split
   ·exact hx
   ·exact hwf b hb'
  ·rw [List.map_map]
   have e2:(Prod.fst ∘ fun e:Pm.Nm × Value=>if e.1=x then (x,v) else e)=Prod.fst:=by
    funext e
    simp only [Function.comp]
    split
    ·next h=>exact h.symm
    ·rfl
   rw [e2]
   exact hnd
  ·intro e hm'
   rw [Array.toList_setIfInBounds] at hm'
   rcases List.mem_or_eq_of_mem_set hm' with hm' | rfl
   ·exact hf1 e hm'
   ·exact hf1 e0 (List.mem_of_getElem? h2)
  ·rw [Array.toList_setIfInBounds,List.map_set]
   have e3:(es.toList.map (·.born)).set j e0.born=es.toList.map (·.born):=by
    apply List.ext_getElem?
    intro i
    rw [List.getElem?_set]
    split
    ·next h =>
     subst h
     rw [List.length_map,if_pos hjl,List.getElem?_map,h2]
     rfl
    ·rfl
   show ((es.toList.map (·.born)).set j e0.born).Nodup
   rw [e3]
   exact hf2
theorem lk_set (l:List (Pm.Nm × Value)) (x:Pm.Nm) (v:Value) (hm:(plk l x).isSome=true) (y:Pm.Nm):plk (l.map fun e=>if e.1=x then (x,v) else e) y=if y=x then some v else plk l y:=by
 induction l with
 | nil=>cases hm
 | cons a l ih =>
  unfold plk at hm ih ⊢
  rw [List.map_cons,List.find?_cons]
  rw [List.find?_cons] at hm
  by_cases ha:a.1=x
  ·rw [if_pos ha]
   by_cases hy:y=x
   ·subst hy
    rw [if_pos rfl]
    simp
   ·rw [if_neg hy]
    have e1:(x == y)=false:=by simpa using fun e=>hy (Eq.symm e)
    rw [show ((x,v).1 == y)=false from e1,List.find?_cons,show (a.1 == y)=false by rw [ha]; exact e1]
    have:∀ k:List (Pm.Nm × Value),((k.map fun e=>if e.1=x then (x,v) else e).find? fun e=>e.1 == y).map (·.2)=(k.find? fun e=>e.1 == y).map (·.2):=by
     intro k
     induction k with
     | nil=>rfl
     | cons b k ihk =>
      rw [List.map_cons,List.find?_cons,List.find?_cons]
      by_cases hb:b.1=x
      ·rw [if_pos hb,show ((x,v).1 == y)=false from e1,show (b.1 == y)=false by rw [hb]; exact e1]
       exact ihk
      ·rw [if_neg hb]
       cases b.1 == y
       ·exact ihk
       ·rfl
    exact this l
  ·rw [if_neg ha,List.find?_cons]
   have e0:(a.1 == x)=false:=by simpa using ha
   rw [e0] at hm
   cases hay:a.1 == y with
   | false=>exact ih hm
   | true =>
    have hy:¬ y=x:=fun e=>by rw [← e] at ha; exact ha (by simpa using hay)
    rw [if_neg hy]
theorem lk_push (l:List (Pm.Nm × Value)) (x:Pm.Nm) (v:Value) (hn:plk l x=none) (y:Pm.Nm):plk (l ++ [(x,v)]) y=if y=x then some v else plk l y:=by
 unfold plk
 rw [List.find?_append]
 by_cases hy:y=x
 ·subst hy
  unfold plk at hn
  rw [Option.map_eq_none_iff] at hn
  rw [hn,if_pos rfl]
  simp
 ·rw [if_neg hy]
  have e1:(x == y)=false:=by simpa using fun e=>hy (Eq.symm e)
  cases h:l.find? fun e=>e.1 == y with
  | none=>simp [e1]
  | some a=>rfl
theorem GMap.store (h:GMap nk w M l) (T:GT kt nk mt et z) (x:Pm.Nm) (v:Value) (hx:KWf nk x) :
  ∃ w' l',(Instr.mapUpdate mt (.map (some M)) (kV x) v).run Tryz.prog w=.ok () w'∧GMap nk w' M l'∧(∀ y,plk l' y=if y=x then some v else plk l y)∧Turns (fun k=>k=M) w w'∧w'.heap.size=w.heap.size:=by
 cases hm:(plk l x).isSome
 ·have hn:plk l x=none:=by simpa using hm
  obtain ⟨w',h1,h2,h3,h4⟩:=h.upd T x v hx hn
  exact ⟨w',_,h1,h2,lk_push l x v hn,h3,h4⟩
 ·obtain ⟨w',h1,h2,h3,h4⟩:=h.set T x v hx hm
  exact ⟨w',_,h1,h2,lk_set l x v hm,h3,h4⟩
end
section
variable {w w':World} {r M nk:Nat} {kt:TypeId} {l left:List (Pm.Nm × Value)}
end
open Go.RowKit
open Go.Maps (Keyed)
theorem laidB12:laidOutB Tryz.prog=true:=by kernel_rfl
theorem sizes12:∃ m,Tryz.prog.types.size=m+6:=⟨Tryz.prog.types.size - 6,by have:6≤Tryz.prog.types.size:=of_decide_eq_true (by kernel_rfl); omega⟩
theorem kl_int (n:Nat) (a:Int) (h:(Lit.int .i64 a).wf=true):Tryz.prog.keyLits (n+1) 3 [.int .i64 a]=some [.int .i64 a]:=by
 simp [Program.keyLits,Tryz.underlying3,h]
theorem kl_st (n:Nat) (a b:Int) (h:(Lit.int .i64 a).wf=true) (k:(Lit.int .i64 b).wf=true):Tryz.prog.keyLits (n+2) 35 [.int .i64 a,.int .i64 b]=some [.int .i64 a,.int .i64 b]:=by
 have c2:Tryz.prog.cellsOf 35=2:=by kernel_rfl
 have c3:Tryz.prog.cellsOf 3=1:=by kernel_rfl
 unfold Program.keyLits
 simp only [Tryz.underlying35]
 rw [if_pos ⟨by rw [c2]; rfl,by kernel_rfl⟩]
 simp [c3,kl_int n a h,kl_int n b k]
theorem kl_pr (n:Nat) (a b c:Int) (h:(Lit.int .i64 a).wf=true) (k:(Lit.int .i64 b).wf=true) (l:(Lit.int .i64 c).wf=true):Tryz.prog.keyLits (n+3) 284 [.int .i64 a,.int .i64 b,.int .i64 c]=some [.int .i64 a,.int .i64 b,.int .i64 c]:=by
 have c1:Tryz.prog.cellsOf 284=3:=by kernel_rfl
 have c2:Tryz.prog.cellsOf 35=2:=by kernel_rfl
 have c3:Tryz.prog.cellsOf 3=1:=by kernel_rfl
 unfold Program.keyLits
 simp only [Tryz.underlying284]
 rw [if_pos ⟨by rw [c1]; rfl,by kernel_rfl⟩]
 simp [c2,c3,kl_st n a b h k,kl_int (n+1) c l]
theorem kl_pa (n:Nat) (x:Fin 16→Int) (h:∀ i,(Lit.int .i64 (x i)).wf=true):∃ l,Tryz.prog.keyLits (n+3) 291 [.int .i64 (x 0),.int .i64 (x 1),.int .i64 (x 2),.int .i64 (x 3),.int .i64 (x 4),.int .i64 (x 5),.int .i64 (x 6),.int .i64 (x 7),.int .i64 (x 8),.int .i64 (x 9),.int .i64 (x 10),.int .i64 (x 11),.int .i64 (x 12),.int .i64 (x 13),.int .i64 (x 14),.int .i64 (x 15)]=some l:=by
 have c1:Tryz.prog.cellsOf 291=16:=by kernel_rfl
 have c2:Tryz.prog.cellsOf 35=2:=by kernel_rfl
 have r8:List.range 8=[0,1,2,3,4,5,6,7]:=rfl
 unfold Program.keyLits
 simp only [Tryz.underlying291]
 rw [if_pos (by rw [c1]; rfl)]
 simp [r8,c2,kl_st n _ _ (h _) (h _)]
theorem kl_ov (n:Nat) (a b c d:Int) (x:Fin 16→Int) (ha:(Lit.int .i64 a).wf=true) (hb:(Lit.int .i64 b).wf=true) (hc:(Lit.int .i64 c).wf=true) (hd:(Lit.int .i64 d).wf=true) (h:∀ i,(Lit.int .i64 (x i)).wf=true):∃ l,Tryz.prog.keyLits (n+4) 293 [.int .i64 a,.int .i64 b,.int .i64 c,.int .i64 (x 0),.int .i64 (x 1),.int .i64 (x 2),.int .i64 (x 3),.int .i64 (x 4),.int .i64 (x 5),.int .i64 (x 6),.int .i64 (x 7),.int .i64 (x 8),.int .i64 (x 9),.int .i64 (x 10),.int .i64 (x 11),.int .i64 (x 12),.int .i64 (x 13),.int .i64 (x 14),.int .i64 (x 15),.int .i64 d]=some l:=by
 have c0:Tryz.prog.cellsOf 293=20:=by kernel_rfl
 have c1:Tryz.prog.cellsOf 291=16:=by kernel_rfl
 have c2:Tryz.prog.cellsOf 284=3:=by kernel_rfl
 have c3:Tryz.prog.cellsOf 3=1:=by kernel_rfl
 obtain ⟨l,hl⟩:=kl_pa n x h
 unfold Program.keyLits
 simp only [Tryz.underlying293]
 rw [if_pos ⟨by rw [c0]; rfl,by kernel_rfl⟩]
 simp [c1,c2,c3,kl_pr n a b c ha hb hc,hl,kl_int (n+2) d hd]
theorem list3i {x:Pm.Nm} (h:x.length=3):∃ a b c,x=[a,b,c]:=by match x,h with | [a,b,c],_=>exact ⟨a,b,c,rfl⟩
theorem list2i {x:Pm.Nm} (h:x.length=2):∃ a b,x=[a,b]:=by match x,h with | [a,b],_=>exact ⟨a,b,rfl⟩
theorem list20i {x:Pm.Nm} (h:x.length=20):∃ a b c d,∃ y:Fin 16→Int,x=[a,b,c,y 0,y 1,y 2,y 3,y 4,y 5,y 6,y 7,y 8,y 9,y 10,y 11,y 12,y 13,y 14,y 15,d]∧∀ i,y i ∈ x:=by
 match x,h with
 | [a,b,c,y0,y1,y2,y3,y4,y5,y6,y7,y8,y9,y10,y11,y12,y13,y14,y15,d],_ =>
  refine ⟨a,b,c,d,fun i=>[y0,y1,y2,y3,y4,y5,y6,y7,y8,y9,y10,y11,y12,y13,y14,y15].get (i.cast rfl),rfl,fun i=>?_⟩
  have:[y0,y1,y2,y3,y4,y5,y6,y7,y8,y9,y10,y11,y12,y13,y14,y15].get (i.cast rfl) ∈ [y0,y1,y2,y3,y4,y5,y6,y7,y8,y9,y10,y11,y12,y13,y14,y15]:=List.get_mem _ _
  have h2:∀ z ∈ [y0,y1,y2,y3,y4,y5,y6,y7,y8,y9,y10,y11,y12,y13,y14,y15],z ∈ [a,b,c,y0,y1,y2,y3,y4,y5,y6,y7,y8,y9,y10,y11,y12,y13,y14,y15,d]:=fun z hz=>by
   have e:[a,b,c,y0,y1,y2,y3,y4,y5,y6,y7,y8,y9,y10,y11,y12,y13,y14,y15,d]=[a,b,c] ++ [y0,y1,y2,y3,y4,y5,y6,y7,y8,y9,y10,y11,y12,y13,y14,y15] ++ [d]:=rfl
   rw [e]
   exact List.mem_append_left _ (List.mem_append_right _ hz)
  exact h2 _ this
theorem ktV:KT 284 3 where
 law:=Keyed.of_law (deep_law_laid laidB12 (m:=3) (by omega) (of_decide_eq_true (by kernel_rfl)) (by kernel_rfl) (by kernel_rfl))
 key:=fun x ⟨hl,hw⟩=>by
  obtain ⟨a,b,c,rfl⟩:=list3i hl
  obtain ⟨m,hm⟩:=sizes12
  have hkt:Tryz.prog.keyType 284=true:=by kernel_rfl
  have c2:Tryz.prog.cellsOf 284=3:=by kernel_rfl
  obtain ⟨ls,hls⟩:∃ ls,Tryz.prog.keyLits (m+6+1) 284 [.int .i64 a,.int .i64 b,.int .i64 c]=some ls:=⟨_,kl_pr (m+4) a b c (hw a (by simp)) (hw b (by simp)) (hw c (by simp))⟩
  refine ⟨.string (keyBytes ls),?_⟩
  unfold keyOf
  simp only [Tryz.underlying284]
  rw [if_pos (by simp [hkt,Value.formed,Tryz.underlying284,c2]),hm]
  rw [show (kV [a,b,c]).cells.toList=[.int .i64 a,.int .i64 b,.int .i64 c] from rfl,hls]
  rfl
theorem ktM:KT 35 2 where
 law:=Keyed.of_law (deep_law_laid laidB12 (m:=2) (by omega) (of_decide_eq_true (by kernel_rfl)) (by kernel_rfl) (by kernel_rfl))
 key:=fun x ⟨hl,hw⟩=>by
  obtain ⟨a,b,rfl⟩:=list2i hl
  obtain ⟨m,hm⟩:=sizes12
  have hkt:Tryz.prog.keyType 35=true:=by kernel_rfl
  have c2:Tryz.prog.cellsOf 35=2:=by kernel_rfl
  obtain ⟨ls,hls⟩:∃ ls,Tryz.prog.keyLits (m+6+1) 35 [.int .i64 a,.int .i64 b]=some ls:=⟨_,kl_st (m+5) a b (hw a (by simp)) (hw b (by simp))⟩
  refine ⟨.string (keyBytes ls),?_⟩
  unfold keyOf
  simp only [Tryz.underlying35]
  rw [if_pos (by simp [hkt,Value.formed,Tryz.underlying35,c2]),hm]
  rw [show (kV [a,b]).cells.toList=[.int .i64 a,.int .i64 b] from rfl,hls]
  rfl
theorem ktO:KT 293 20 where
 law:=Keyed.of_law (deep_law_laid laidB12 (m:=4) (by omega) (of_decide_eq_true (by kernel_rfl)) (by kernel_rfl) (by kernel_rfl))
 key:=fun x ⟨hl,hw⟩=>by
  obtain ⟨a,b,c,d,y,rfl,hy⟩:=list20i hl
  obtain ⟨m,hm⟩:=sizes12
  have hkt:Tryz.prog.keyType 293=true:=by kernel_rfl
  have c2:Tryz.prog.cellsOf 293=20:=by kernel_rfl
  obtain ⟨ls,hls⟩:=kl_ov (m+3) a b c d y (hw a (by simp)) (hw b (by simp)) (hw c (by simp)) (hw d (by simp)) (fun i=>hw _ (hy i))
  refine ⟨.string (keyBytes ls),?_⟩
  unfold keyOf
  simp only [Tryz.underlying293]
  rw [if_pos (by simp [hkt,Value.formed,Tryz.underlying293,c2]),hm]
  rw [show (kV [a,b,c,y 0,y 1,y 2,y 3,y 4,y 5,y 6,y 7,y 8,y 9,y 10,y 11,y 12,y 13,y 14,y 15,d]).cells.toList=[.int .i64 a,.int .i64 b,.int .i64 c,.int .i64 (y 0),.int .i64 (y 1),.int .i64 (y 2),.int .i64 (y 3),.int .i64 (y 4),.int .i64 (y 5),.int .i64 (y 6),.int .i64 (y 7),.int .i64 (y 8),.int .i64 (y 9),.int .i64 (y 10),.int .i64 (y 11),.int .i64 (y 12),.int .i64 (y 13),.int .i64 (y 14),.int .i64 (y 15),.int .i64 d] from rfl,hls]
  rfl
abbrev rvA (r:Qm.St × Pm.Vl):Array Value:=#[.int .i64 r.1.1,.int .i64 r.1.2,.int .i64 r.2.1,.int .i64 r.2.2.1,.string r.2.2.2]
abbrev rmA (r:Qm.St × Bool):Array Value:=#[.int .i64 r.1.1,.int .i64 r.1.2,.bool r.2]
theorem gtV:GT 284 3 272 286 (.agg (rvA ((0,0),Pm.z0))):=⟨ktV,Tryz.underlying272,fun _=>by kernel_rfl⟩
theorem gtM:GT 35 2 274 289 (.agg (rmA ((0,0),false))):=⟨ktM,Tryz.underlying274,fun _=>by kernel_rfl⟩
theorem gtO:GT 293 20 276 286 (.agg (rvA ((0,0),Pm.z0))):=⟨ktO,Tryz.underlying276,fun _=>by kernel_rfl⟩
open Go.RowKit
open Go.Maps (Keyed)
abbrev vlA (v:Pm.Vl):Array Value:=#[.int .i64 v.1,.int .i64 v.2.1,.string v.2.2]
theorem kV_one (x:Pm.Nm):(x.map fun i=>Value.int .i64 i).toArray.all (·.oneCell')=true:=all_oneCell_toArray (cs:=x.map fun i=>Value.int .i64 i) (by
 intro v hv
 obtain ⟨i,-,rfl⟩:=List.mem_map.1 hv
 rfl)
theorem kV_size {n:Nat} {x:Pm.Nm} (h:KWf n x):(x.map fun i=>Value.int .i64 i).toArray.size=n:=by simpa using h.1
theorem pA:AgT 284 3:=⟨⟨_,Tryz.underlying284⟩,by kernel_rfl⟩
theorem oA:AgT 293 20:=⟨⟨_,Tryz.underlying293⟩,by kernel_rfl⟩
theorem vA:AgT 38 3:=⟨⟨_,Tryz.underlying38⟩,by kernel_rfl⟩
def RM {V:Type} (nk:Nat) (ca:Qm.St × V→Array Value) (d:V) (w:World) (M:Nat) (f:Pm.Rg V):Prop :=
 ∃ l,GMap nk w M l∧∀ y,(plk l y).getD (.agg (ca ((0,0),d)))=.agg (ca (f y))
section
variable {V:Type} {nk:Nat} {ca:Qm.St × V→Array Value} {d:V} {w w':World} {M:Nat} {f:Pm.Rg V}
theorem RM.lt (h:RM nk ca d w M f):M<w.heap.size:=by obtain ⟨l,h,-⟩:=h; exact h.lt
theorem RM.turns {G:Nat→Prop} (h:RM nk ca d w M f) (ht:Turns G w w') (hd:¬ G M):RM nk ca d w' M f:=by obtain ⟨l,h,e⟩:=h; exact ⟨l,h.turns ht hd,e⟩
theorem RM.below (h:RM nk ca d w M f) (hb:Below w.heap.size w w'):RM nk ca d w' M f:=by obtain ⟨l,h,e⟩:=h; exact ⟨l,h.below hb,e⟩
theorem RM.made (w:World):RM nk ca d (w.alloc (.map #[] 0)) w.heap.size (Pm.Rg.zero d):=⟨[],GMap.made nk w,fun _=>rfl⟩
theorem RM.look {kt mt et:TypeId} (h:RM nk ca d w M f) (T:GT kt nk mt et (.agg (ca ((0,0),d)))) (x:Pm.Nm) (hx:KWf nk x):(Instr.lookup mt (.map (some M)) (kV x) false).run Tryz.prog w=.ok (.agg (ca (f x))) w:=by
 obtain ⟨l,h,e⟩:=h
 rw [h.look T x hx,e]
theorem RM.store {kt mt et:TypeId} (h:RM nk ca d w M f) (T:GT kt nk mt et (.agg (ca ((0,0),d)))) (x:Pm.Nm) (hx:KWf nk x) (r:Qm.St × V) :
  ∃ w',(Instr.mapUpdate mt (.map (some M)) (kV x) (.agg (ca r))).run Tryz.prog w=.ok () w'∧RM nk ca d w' M (fun y=>if y=x then r else f y)∧Turns (fun k=>k=M) w w'∧w'.heap.size=w.heap.size:=by
 obtain ⟨l,h,e⟩:=h
 obtain ⟨w',l',h1,h2,h3,h4,h5⟩:=h.store T x (.agg (ca r)) hx
 refine ⟨w',h1,⟨l',h2,fun y=>?_⟩,h4,h5⟩
 rw [h3]
 show _=Value.agg (ca (if y=x then r else f y))
 by_cases hy:y=x
 ·rw [if_pos hy,if_pos hy]; rfl
 ·rw [if_neg hy,if_neg hy]; exact e y
end
theorem vl_one (v:Pm.Vl):(vlA v).all (·.oneCell')=true:=all_oneCell_toArray (cs:=[.int .i64 v.1,.int .i64 v.2.1,.string v.2.2]) (by
 intro u hu
 simp only [List.mem_cons,List.not_mem_nil,or_false] at hu
 rcases hu with rfl | rfl | rfl <;> rfl)
theorem field_rv0 (a b c d:Int) (e:ByteArray) (W:World):(Instr.field 286 (.agg #[.int .i64 a,.int .i64 b,.int .i64 c,.int .i64 d,.string e]) 0).run Tryz.prog W=.ok (.agg #[.int .i64 a,.int .i64 b]) W:=by kernel_rfl
theorem field_rv1 (a b c d:Int) (e:ByteArray) (W:World):(Instr.field 286 (.agg #[.int .i64 a,.int .i64 b,.int .i64 c,.int .i64 d,.string e]) 1).run Tryz.prog W=.ok (.agg #[.int .i64 c,.int .i64 d,.string e]) W:=by kernel_rfl
theorem field_rm0 (a b:Int) (c:Bool) (W:World):(Instr.field 289 (.agg #[.int .i64 a,.int .i64 b,.bool c]) 0).run Tryz.prog W=.ok (.agg #[.int .i64 a,.int .i64 b]) W:=by kernel_rfl
theorem qcmp_lt (a b:Qm.St):decide (qcmpS a.1 a.2 b.1 b.2<0)=decide (Qm.ltS a b):=by
 unfold qcmpS Qm.ltS
 by_cases e1:a.1=b.1
 ·by_cases e2:a.2=b.2
  ·simp [e1,e2]
  ·by_cases e3:a.2<b.2 <;> simp [e1,e2,e3]
 ·by_cases e3:a.1<b.1 <;> simp [e1,e3]
theorem valueV_any (M:Nat) (f:Pm.Rg Pm.Vl) (x:Pm.Nm) (w:World) (h:RM 3 rvA Pm.z0 w M f) (hx:KWf 3 x) :
  Calls Tryz.prog 231 #[.map (some M),kV x] w fun e w'=>e=.returned (.agg (vlA (f x).2))∧Below w.heap.size w w':=by
 have HSZ:=Hi (kV_size hx)
 have HW:=Hi (fun (W:World) (hb:Below w.heap.size w W)=>(h.below hb).look gtV x hx)
 have HON:=Hi (kV_one x)
 clear h hx
 unfold kV at HW ⊢
 generalize (x.map fun i=>Value.int .i64 i).toArray=A at *
 generalize f x=r at *
 have HA:=Hi (AgAt.new w A 284)
 have HB1:=Hi ((Below.refl w.heap.size w).alloc (Nat.le_refl _) (.cells A 284))
 obtain ⟨⟨r1,r2⟩,r3,r4,r5⟩:=r
 have hl:=HW.out _ (HB1.out.alloc (by simp) (.cells #[.int .i64 0,.int .i64 0,.string ⟨#[]⟩] 38))
 dsimp only [rvA] at hl
 have hf:=field_rv1 r1 r2 r3 r4 r5
 clear HW
 go_enter Tryz.func231,Tryz.ntmps231
 go_wp2_with (first | (refine wpList_load_ag pA rfl _ rfl _ rfl HSZ.out (HA.out.kept ((Below.refl _ _).alloc (Nat.le_refl _) _)) ?_))
 have hv:=AgAt.new (w.alloc (.cells A 284)) #[.int .i64 r3,.int .i64 r4,.string r5] 38
 rw [World.size_alloc] at hv
 refine bodyPost_ret (results_ag vA _ rfl rfl hv rfl) rfl ?_
 exact ⟨rfl,HB1.out.alloc (by simp) _⟩
theorem writeV_any (M:Nat) (f:Pm.Rg Pm.Vl) (x:Pm.Nm) (s:Qm.St) (v:Pm.Vl) (w:World) (h:RM 3 rvA Pm.z0 w M f) (hx:KWf 3 x) :
  Calls Tryz.prog 267 #[.map (some M),kV x,.agg #[.int .i64 s.1,.int .i64 s.2],.agg (vlA v)] w fun e w'=>e=.returned (.tuple #[])∧RM 3 rvA Pm.z0 w' M (Pm.put f x s v)∧Turns (fun k=>k=M) w w':=by
 have H:=Hi h
 have HX:=Hi hx
 have HSZ:=Hi (kV_size hx)
 have HW:=Hi (fun (W:World) (hb:Below w.heap.size w W)=>(h.below hb).look gtV x hx)
 have HU:=Hi (fun (W:World) (hb:Below w.heap.size w W) (r:Qm.St × Pm.Vl)=>(h.below hb).store gtV x hx r)
 have HPN:=Hi (fun (W:World) (hn:¬ Qm.ltS (f x).1 s) (hb:Below w.heap.size w W)=>show RM 3 rvA Pm.z0 W M (Pm.put f x s v) from by
  have e:Pm.put f x s v=f:=by
   funext y
   unfold Pm.put
   rw [if_neg hn]
   by_cases hy:y=x
   ·rw [if_pos hy,hy]
   ·rw [if_neg hy]
  rw [e]
  exact h.below hb)
 have HPY:=Hi (fun (hn:Qm.ltS (f x).1 s)=>show (fun y=>if y=x then (s,v) else f y)=Pm.put f x s v from by
  funext y
  unfold Pm.put
  rw [if_pos hn])
 have HC:=Hi (qcmp_lt (f x).1 s)
 clear h hx
 unfold kV at HW HU ⊢
 generalize (x.map fun i=>Value.int .i64 i).toArray=A at *
 generalize f x=r at *
 have HA:=Hi (AgAt.new w A 284)
 have HB1:=Hi ((Below.refl w.heap.size w).alloc (Nat.le_refl _) (.cells A 284))
 obtain ⟨⟨r1,r2⟩,r3⟩:=r
 obtain ⟨s1,s2⟩:=s
 obtain ⟨r3,r4,r5⟩:=r3
 obtain ⟨v1,v2,v3⟩:=v
 have HS0:=Hi (AgAt.new (w.alloc (.cells A 284)) #[.int .i64 s1,.int .i64 s2] 35)
 rw [World.size_alloc] at HS0
 have HV0:=Hi (AgAt.new ((w.alloc (.cells A 284)).alloc (.cells #[.int .i64 s1,.int .i64 s2] 35)) (vlA (v1,v2,v3)) 38)
 rw [World.size_alloc,World.size_alloc] at HV0
 replace HA:=Hi (HA.out.kept ((Below.refl _ _).alloc (Nat.le_refl _) (.cells #[.int .i64 s1,.int .i64 s2] 35)))
 replace HA:=Hi (HA.out.kept ((Below.refl _ _).alloc (Nat.le_refl _) (.cells (vlA (v1,v2,v3)) 38)))
 replace HS0:=Hi (HS0.out.kept ((Below.refl _ _).alloc (Nat.le_refl _) (.cells (vlA (v1,v2,v3)) 38)))
 replace HB1:=Hi (show Below w.heap.size w (((w.alloc (.cells A 284)).alloc (.cells #[.int .i64 s1,.int .i64 s2] 35)).alloc (.cells (vlA (v1,v2,v3)) 38)) from (HB1.out.alloc (by simp) _).alloc (by simp; omega) _)
 dsimp only [vlA,rvA,rmA] at *
 by_cases hlt:Qm.ltS (r1,r2) (s1,s2)
 ·have d1:decide (qcmpS r1 r2 s1 s2<0)=true:=HC.out.trans (decide_eq_true hlt)
  have HCM:=Hi (fun W=>qcompare_any r1 r2 s1 s2 W)
  have hf:=field_rv0 r1 r2 r3 r4 r5
  go_enter Tryz.func267,Tryz.ntmps267
  go_upto_region 1 with fail
  generalize hwd:(((w.alloc (.cells A 284)).alloc (.cells #[.int .i64 s1,.int .i64 s2] 35)).alloc (.cells #[.int .i64 v1,.int .i64 v2,.string v3] 38))=wd at *
  refine wp_region_held_drew (S:=fun W=>Below wd.heap.size wd W) (by kernel_rfl) (Below.drew (Below.refl _ _)) (fun hS=>?_)
  refine tX 0 rfl hS ?_
  go_simp
  refine tK 1 (v:=.agg A) rfl (fun W hSW=>exec_load_ag pA rfl rfl HSZ.out (HA.out.kept hSW)) hS ?_
  go_simp
  refine tK 2 (v:=.agg #[.int .i64 r1,.int .i64 r2,.int .i64 r3,.int .i64 r4,.string r5]) rfl (fun W hSW=>exec_lookup rfl rfl rfl (HW.out W (HB1.out.trans (hSW.mono HB1.out.size)))) hS ?_
  refine tX 3 rfl hS ?_
  go_simp
  refine tK 4 (v:=.agg #[.int .i64 s1,.int .i64 s2]) rfl (fun W hSW=>exec_load_ag stT rfl rfl rfl (HS0.out.kept hSW)) hS ?_
  go_simp
  refine rD 5 rfl (fun K hK=>?_)
  go_simp
  go_wp2_with ((go_at_call 168; refine (HCM.out _).mono ?_; rintro e wn ⟨rfl,hbn⟩))
  refine hK.out _ _ (hS.trans (hbn.mono hS.size)) (fun hS=>?_)
  clear hK K hbn
  refine tX 6 rfl hS ?_
  go_simp
  refine wpAnyH_done (by kernel_rfl) ?_ _
  go_simp
  have HN:=Hi (HB1.out.trans (hS.mono HB1.out.size))
  have HSW:=Hi hS
  clear hS
  obtain ⟨w5,hu,hrm,ht5,hsz5⟩:=HU.out _ HN.out ((s1,s2),(v1,v2,v3))
  rw [HPY.out hlt] at hrm
  dsimp only [rvA] at hu
  go_wp2_with (first | (refine wpList_load_ag pA rfl _ rfl _ rfl HSZ.out (HA.out.kept HSW.out) ?_) | (refine wpList_load_ag stT rfl _ rfl _ rfl (A:=#[.int .i64 s1,.int .i64 s2]) rfl (HS0.out.kept HSW.out) ?_) | (refine wpList_load_ag vA rfl _ rfl _ rfl (A:=#[.int .i64 v1,.int .i64 v2,.string v3]) rfl (HV0.out.kept HSW.out) ?_))
  go_end0
  exact ⟨rfl,hrm,(Turns.of_below HN.out).trans (ht5.mono fun k _ hk=>Or.inl hk)⟩
 ·have d1:decide (qcmpS r1 r2 s1 s2<0)=false:=HC.out.trans (decide_eq_false hlt)
  have HCM:=Hi (fun W=>qcompare_any r1 r2 s1 s2 W)
  have hf:=field_rv0 r1 r2 r3 r4 r5
  go_enter Tryz.func267,Tryz.ntmps267
  go_upto_region 1 with fail
  generalize hwd:(((w.alloc (.cells A 284)).alloc (.cells #[.int .i64 s1,.int .i64 s2] 35)).alloc (.cells #[.int .i64 v1,.int .i64 v2,.string v3] 38))=wd at *
  refine wp_region_held_drew (S:=fun W=>Below wd.heap.size wd W) (by kernel_rfl) (Below.drew (Below.refl _ _)) (fun hS=>?_)
  refine tX 0 rfl hS ?_
  go_simp
  refine tK 1 (v:=.agg A) rfl (fun W hSW=>exec_load_ag pA rfl rfl HSZ.out (HA.out.kept hSW)) hS ?_
  go_simp
  refine tK 2 (v:=.agg #[.int .i64 r1,.int .i64 r2,.int .i64 r3,.int .i64 r4,.string r5]) rfl (fun W hSW=>exec_lookup rfl rfl rfl (HW.out W (HB1.out.trans (hSW.mono HB1.out.size)))) hS ?_
  refine tX 3 rfl hS ?_
  go_simp
  refine tK 4 (v:=.agg #[.int .i64 s1,.int .i64 s2]) rfl (fun W hSW=>exec_load_ag stT rfl rfl rfl (HS0.out.kept hSW)) hS ?_
  go_simp
  refine rD 5 rfl (fun K hK=>?_)
  go_simp
  go_wp2_with ((go_at_call 168; refine (HCM.out _).mono ?_; rintro e wn ⟨rfl,hbn⟩))
  refine hK.out _ _ (hS.trans (hbn.mono hS.size)) (fun hS=>?_)
  clear hK K hbn
  refine tX 6 rfl hS ?_
  go_simp
  refine wpAnyH_done (by kernel_rfl) ?_ _
  go_simp
  have HN:=Hi (HB1.out.trans (hS.mono HB1.out.size))
  clear hS
  go_wp2
  go_end0
  exact ⟨rfl,HPN.out _ hlt HN.out,Turns.of_below HN.out⟩
theorem writeM_any (M:Nat) (f:Pm.Rg Bool) (x:Pm.Nm) (s:Qm.St) (v:Bool) (w:World) (h:RM 2 rmA false w M f) (hx:KWf 2 x) :
  Calls Tryz.prog 268 #[.map (some M),kV x,.agg #[.int .i64 s.1,.int .i64 s.2],.bool v] w fun e w'=>e=.returned (.tuple #[])∧RM 2 rmA false w' M (Pm.put f x s v)∧Turns (fun k=>k=M) w w':=by
 have H:=Hi h
 have HX:=Hi hx
 have HSZ:=Hi (kV_size hx)
 have HW:=Hi (fun (W:World) (hb:Below w.heap.size w W)=>(h.below hb).look gtM x hx)
 have HU:=Hi (fun (W:World) (hb:Below w.heap.size w W) (r:Qm.St × Bool)=>(h.below hb).store gtM x hx r)
 have HPN:=Hi (fun (W:World) (hn:¬ Qm.ltS (f x).1 s) (hb:Below w.heap.size w W)=>show RM 2 rmA false W M (Pm.put f x s v) from by
  have e:Pm.put f x s v=f:=by
   funext y
   unfold Pm.put
   rw [if_neg hn]
   by_cases hy:y=x
   ·rw [if_pos hy,hy]
   ·rw [if_neg hy]
  rw [e]
  exact h.below hb)
 have HPY:=Hi (fun (hn:Qm.ltS (f x).1 s)=>show (fun y=>if y=x then (s,v) else f y)=Pm.put f x s v from by
  funext y
  unfold Pm.put
  rw [if_pos hn])
 have HC:=Hi (qcmp_lt (f x).1 s)
 clear h hx
 unfold kV at HW HU ⊢
 generalize (x.map fun i=>Value.int .i64 i).toArray=A at *
 generalize f x=r at *
 have HA:=Hi (AgAt.new w A 35)
 have HB1:=Hi ((Below.refl w.heap.size w).alloc (Nat.le_refl _) (.cells A 35))
 obtain ⟨⟨r1,r2⟩,r3⟩:=r
 obtain ⟨s1,s2⟩:=s
 have HS0:=Hi (AgAt.new (w.alloc (.cells A 35)) #[.int .i64 s1,.int .i64 s2] 35)
 rw [World.size_alloc] at HS0
 replace HA:=Hi (HA.out.kept ((Below.refl _ _).alloc (Nat.le_refl _) (.cells #[.int .i64 s1,.int .i64 s2] 35)))
 replace HB1:=Hi (show Below w.heap.size w ((w.alloc (.cells A 35)).alloc (.cells #[.int .i64 s1,.int .i64 s2] 35)) from HB1.out.alloc (by simp) _)
 dsimp only [rmA] at *
 by_cases hlt:Qm.ltS (r1,r2) (s1,s2)
 ·have d1:decide (qcmpS r1 r2 s1 s2<0)=true:=HC.out.trans (decide_eq_true hlt)
  have HCM:=Hi (fun W=>qcompare_any r1 r2 s1 s2 W)
  have hf:=field_rm0 r1 r2 r3
  go_enter Tryz.func268,Tryz.ntmps268
  go_upto_region 1 with fail
  generalize hwd:((w.alloc (.cells A 35)).alloc (.cells #[.int .i64 s1,.int .i64 s2] 35))=wd at *
  refine wp_region_held_drew (S:=fun W=>Below wd.heap.size wd W) (by kernel_rfl) (Below.drew (Below.refl _ _)) (fun hS=>?_)
  refine tX 0 rfl hS ?_
  go_simp
  refine tK 1 (v:=.agg A) rfl (fun W hSW=>exec_load_ag stT rfl rfl HSZ.out (HA.out.kept hSW)) hS ?_
  go_simp
  refine tK 2 (v:=.agg #[.int .i64 r1,.int .i64 r2,.bool r3]) rfl (fun W hSW=>exec_lookup rfl rfl rfl (HW.out W (HB1.out.trans (hSW.mono HB1.out.size)))) hS ?_
  refine tX 3 rfl hS ?_
  go_simp
  refine tK 4 (v:=.agg #[.int .i64 s1,.int .i64 s2]) rfl (fun W hSW=>exec_load_ag stT rfl rfl rfl (HS0.out.kept hSW)) hS ?_
  go_simp
  refine rD 5 rfl (fun K hK=>?_)
  go_simp
  go_wp2_with ((go_at_call 168; refine (HCM.out _).mono ?_; rintro e wn ⟨rfl,hbn⟩))
  refine hK.out _ _ (hS.trans (hbn.mono hS.size)) (fun hS=>?_)
  clear hK K hbn
  refine tX 6 rfl hS ?_
  go_simp
  refine wpAnyH_done (by kernel_rfl) ?_ _
  go_simp
  have HN:=Hi (HB1.out.trans (hS.mono HB1.out.size))
  have HSW:=Hi hS
  clear hS
  obtain ⟨w5,hu,hrm,ht5,hsz5⟩:=HU.out _ HN.out ((s1,s2),v)
  rw [HPY.out hlt] at hrm
  dsimp only [rmA] at hu
  go_wp2_with (first | (refine wpList_load_ag stT rfl _ rfl _ rfl HSZ.out (HA.out.kept HSW.out) ?_) | (refine wpList_load_ag stT rfl _ rfl _ rfl (A:=#[.int .i64 s1,.int .i64 s2]) rfl (HS0.out.kept HSW.out) ?_))
  go_end0
  exact ⟨rfl,hrm,(Turns.of_below HN.out).trans (ht5.mono fun k _ hk=>Or.inl hk)⟩
 ·have d1:decide (qcmpS r1 r2 s1 s2<0)=false:=HC.out.trans (decide_eq_false hlt)
  have HCM:=Hi (fun W=>qcompare_any r1 r2 s1 s2 W)
  have hf:=field_rm0 r1 r2 r3
  go_enter Tryz.func268,Tryz.ntmps268
  go_upto_region 1 with fail
  generalize hwd:((w.alloc (.cells A 35)).alloc (.cells #[.int .i64 s1,.int .i64 s2] 35))=wd at *
  refine wp_region_held_drew (S:=fun W=>Below wd.heap.size wd W) (by kernel_rfl) (Below.drew (Below.refl _ _)) (fun hS=>?_)
  refine tX 0 rfl hS ?_
  go_simp
  refine tK 1 (v:=.agg A) rfl (fun W hSW=>exec_load_ag stT rfl rfl HSZ.out (HA.out.kept hSW)) hS ?_
  go_simp
  refine tK 2 (v:=.agg #[.int .i64 r1,.int .i64 r2,.bool r3]) rfl (fun W hSW=>exec_lookup rfl rfl rfl (HW.out W (HB1.out.trans (hSW.mono HB1.out.size)))) hS ?_
  refine tX 3 rfl hS ?_
  go_simp
  refine tK 4 (v:=.agg #[.int .i64 s1,.int .i64 s2]) rfl (fun W hSW=>exec_load_ag stT rfl rfl rfl (HS0.out.kept hSW)) hS ?_
  go_simp
  refine rD 5 rfl (fun K hK=>?_)
  go_simp
  go_wp2_with ((go_at_call 168; refine (HCM.out _).mono ?_; rintro e wn ⟨rfl,hbn⟩))
  refine hK.out _ _ (hS.trans (hbn.mono hS.size)) (fun hS=>?_)
  clear hK K hbn
  refine tX 6 rfl hS ?_
  go_simp
  refine wpAnyH_done (by kernel_rfl) ?_ _
  go_simp
  have HN:=Hi (HB1.out.trans (hS.mono HB1.out.size))
  clear hS
  go_wp2
  go_end0
  exact ⟨rfl,HPN.out _ hlt HN.out,Turns.of_below HN.out⟩
theorem writeO_any (M:Nat) (f:Pm.Rg Pm.Vl) (x:Pm.Nm) (s:Qm.St) (v:Pm.Vl) (w:World) (h:RM 20 rvA Pm.z0 w M f) (hx:KWf 20 x) :
  Calls Tryz.prog 269 #[.map (some M),kV x,.agg #[.int .i64 s.1,.int .i64 s.2],.agg (vlA v)] w fun e w'=>e=.returned (.tuple #[])∧RM 20 rvA Pm.z0 w' M (Pm.put f x s v)∧Turns (fun k=>k=M) w w':=by
 have H:=Hi h
 have HX:=Hi hx
 have HSZ:=Hi (kV_size hx)
 have HW:=Hi (fun (W:World) (hb:Below w.heap.size w W)=>(h.below hb).look gtO x hx)
 have HU:=Hi (fun (W:World) (hb:Below w.heap.size w W) (r:Qm.St × Pm.Vl)=>(h.below hb).store gtO x hx r)
 have HPN:=Hi (fun (W:World) (hn:¬ Qm.ltS (f x).1 s) (hb:Below w.heap.size w W)=>show RM 20 rvA Pm.z0 W M (Pm.put f x s v) from by
  have e:Pm.put f x s v=f:=by
   funext y
   unfold Pm.put
   rw [if_neg hn]
   by_cases hy:y=x
   ·rw [if_pos hy,hy]
   ·rw [if_neg hy]
  rw [e]
  exact h.below hb)
 have HPY:=Hi (fun (hn:Qm.ltS (f x).1 s)=>show (fun y=>if y=x then (s,v) else f y)=Pm.put f x s v from by
  funext y
  unfold Pm.put
  rw [if_pos hn])
 have HC:=Hi (qcmp_lt (f x).1 s)
 clear h hx
 unfold kV at HW HU ⊢
 generalize (x.map fun i=>Value.int .i64 i).toArray=A at *
 generalize f x=r at *
 have HA:=Hi (AgAt.new w A 293)
 have HB1:=Hi ((Below.refl w.heap.size w).alloc (Nat.le_refl _) (.cells A 293))
 obtain ⟨⟨r1,r2⟩,r3⟩:=r
 obtain ⟨s1,s2⟩:=s
 obtain ⟨r3,r4,r5⟩:=r3
 obtain ⟨v1,v2,v3⟩:=v
 have HS0:=Hi (AgAt.new (w.alloc (.cells A 293)) #[.int .i64 s1,.int .i64 s2] 35)
 rw [World.size_alloc] at HS0
 have HV0:=Hi (AgAt.new ((w.alloc (.cells A 293)).alloc (.cells #[.int .i64 s1,.int .i64 s2] 35)) (vlA (v1,v2,v3)) 38)
 rw [World.size_alloc,World.size_alloc] at HV0
 replace HA:=Hi (HA.out.kept ((Below.refl _ _).alloc (Nat.le_refl _) (.cells #[.int .i64 s1,.int .i64 s2] 35)))
 replace HA:=Hi (HA.out.kept ((Below.refl _ _).alloc (Nat.le_refl _) (.cells (vlA (v1,v2,v3)) 38)))
 replace HS0:=Hi (HS0.out.kept ((Below.refl _ _).alloc (Nat.le_refl _) (.cells (vlA (v1,v2,v3)) 38)))
 replace HB1:=Hi (show Below w.heap.size w (((w.alloc (.cells A 293)).alloc (.cells #[.int .i64 s1,.int .i64 s2] 35)).alloc (.cells (vlA (v1,v2,v3)) 38)) from (HB1.out.alloc (by simp) _).alloc (by simp; omega) _)
 dsimp only [vlA,rvA,rmA] at *
 by_cases hlt:Qm.ltS (r1,r2) (s1,s2)
 ·have d1:decide (qcmpS r1 r2 s1 s2<0)=true:=HC.out.trans (decide_eq_true hlt)
  have HCM:=Hi (fun W=>qcompare_any r1 r2 s1 s2 W)
  have hf:=field_rv0 r1 r2 r3 r4 r5
  go_enter Tryz.func269,Tryz.ntmps269
  go_upto_region 1 with fail
  generalize hwd:(((w.alloc (.cells A 293)).alloc (.cells #[.int .i64 s1,.int .i64 s2] 35)).alloc (.cells #[.int .i64 v1,.int .i64 v2,.string v3] 38))=wd at *
  refine wp_region_held_drew (S:=fun W=>Below wd.heap.size wd W) (by kernel_rfl) (Below.drew (Below.refl _ _)) (fun hS=>?_)
  refine tX 0 rfl hS ?_
  go_simp
  refine tK 1 (v:=.agg A) rfl (fun W hSW=>exec_load_ag oA rfl rfl HSZ.out (HA.out.kept hSW)) hS ?_
  go_simp
  refine tK 2 (v:=.agg #[.int .i64 r1,.int .i64 r2,.int .i64 r3,.int .i64 r4,.string r5]) rfl (fun W hSW=>exec_lookup rfl rfl rfl (HW.out W (HB1.out.trans (hSW.mono HB1.out.size)))) hS ?_
  refine tX 3 rfl hS ?_
  go_simp
  refine tK 4 (v:=.agg #[.int .i64 s1,.int .i64 s2]) rfl (fun W hSW=>exec_load_ag stT rfl rfl rfl (HS0.out.kept hSW)) hS ?_
  go_simp
  refine rD 5 rfl (fun K hK=>?_)
  go_simp
  go_wp2_with ((go_at_call 168; refine (HCM.out _).mono ?_; rintro e wn ⟨rfl,hbn⟩))
  refine hK.out _ _ (hS.trans (hbn.mono hS.size)) (fun hS=>?_)
  clear hK K hbn
  refine tX 6 rfl hS ?_
  go_simp
  refine wpAnyH_done (by kernel_rfl) ?_ _
  go_simp
  have HN:=Hi (HB1.out.trans (hS.mono HB1.out.size))
  have HSW:=Hi hS
  clear hS
  obtain ⟨w5,hu,hrm,ht5,hsz5⟩:=HU.out _ HN.out ((s1,s2),(v1,v2,v3))
  rw [HPY.out hlt] at hrm
  dsimp only [rvA] at hu
  go_wp2_with (first | (refine wpList_load_ag oA rfl _ rfl _ rfl HSZ.out (HA.out.kept HSW.out) ?_) | (refine wpList_load_ag stT rfl _ rfl _ rfl (A:=#[.int .i64 s1,.int .i64 s2]) rfl (HS0.out.kept HSW.out) ?_) | (refine wpList_load_ag vA rfl _ rfl _ rfl (A:=#[.int .i64 v1,.int .i64 v2,.string v3]) rfl (HV0.out.kept HSW.out) ?_))
  go_end0
  exact ⟨rfl,hrm,(Turns.of_below HN.out).trans (ht5.mono fun k _ hk=>Or.inl hk)⟩
 ·have d1:decide (qcmpS r1 r2 s1 s2<0)=false:=HC.out.trans (decide_eq_false hlt)
  have HCM:=Hi (fun W=>qcompare_any r1 r2 s1 s2 W)
  have hf:=field_rv0 r1 r2 r3 r4 r5
  go_enter Tryz.func269,Tryz.ntmps269
  go_upto_region 1 with fail
  generalize hwd:(((w.alloc (.cells A 293)).alloc (.cells #[.int .i64 s1,.int .i64 s2] 35)).alloc (.cells #[.int .i64 v1,.int .i64 v2,.string v3] 38))=wd at *
  refine wp_region_held_drew (S:=fun W=>Below wd.heap.size wd W) (by kernel_rfl) (Below.drew (Below.refl _ _)) (fun hS=>?_)
  refine tX 0 rfl hS ?_
  go_simp
  refine tK 1 (v:=.agg A) rfl (fun W hSW=>exec_load_ag oA rfl rfl HSZ.out (HA.out.kept hSW)) hS ?_
  go_simp
  refine tK 2 (v:=.agg #[.int .i64 r1,.int .i64 r2,.int .i64 r3,.int .i64 r4,.string r5]) rfl (fun W hSW=>exec_lookup rfl rfl rfl (HW.out W (HB1.out.trans (hSW.mono HB1.out.size)))) hS ?_
  refine tX 3 rfl hS ?_
  go_simp
  refine tK 4 (v:=.agg #[.int .i64 s1,.int .i64 s2]) rfl (fun W hSW=>exec_load_ag stT rfl rfl rfl (HS0.out.kept hSW)) hS ?_
  go_simp
  refine rD 5 rfl (fun K hK=>?_)
  go_simp
  go_wp2_with ((go_at_call 168; refine (HCM.out _).mono ?_; rintro e wn ⟨rfl,hbn⟩))
  refine hK.out _ _ (hS.trans (hbn.mono hS.size)) (fun hS=>?_)
  clear hK K hbn
  refine tX 6 rfl hS ?_
  go_simp
  refine wpAnyH_done (by kernel_rfl) ?_ _
  go_simp
  have HN:=Hi (HB1.out.trans (hS.mono HB1.out.size))
  clear hS
  go_wp2
  go_end0
  exact ⟨rfl,HPN.out _ hlt HN.out,Turns.of_below HN.out⟩
open Go.RowKit
open Go.Maps (Keyed)
theorem exec_load_pp {t:TypeId} {n:Nat} (V:AgT t n) {c:Act} {o:Oper} {x:Operand} {w:World} (ho:o.op=.load t x) {b off:Nat} (hx:c.eval x=.pointer (some ⟨b,off,none⟩)) {A:Array Value} (hA:AgAt w b A) (cs:List Value) (hc:∀ j v,cs[j]?=some v→A[off+j]?=some v) (hn:cs.length=n) :
  (execOp c.eval o).run Tryz.prog w=.ok (.value (.agg cs.toArray)) w:=by
 obtain ⟨d,hu⟩:=V.und
 have h1:w.rangeAt b off cs:=fun j v hv=>by rw [hA.cell]; exact hc j v hv
 unfold execOp
 simp only [ho,hx,Sem.run_bind,run_loadAt_mid w b off t cs _ h1 hu rfl (by rw [hn]; exact V.size),Result.andThen_ok,Sem.run_pure]
theorem same_str (a b:ByteArray):(a.toList == b.toList)=decide (a=b):=by
 rw [ByteArray.toList_eq,ByteArray.toList_eq]
 by_cases e:a=b
 ·subst e; simp
 ·rw [decide_eq_false e]
  exact beq_eq_false_iff_ne.2 fun h=>e (congrArg ByteArray.mk (Array.toList_inj.1 h))
theorem vl_neB (p q:Pm.Vl):(!((p.1 == q.1) && ((p.2.1 == q.2.1) && (p.2.2.toList == q.2.2.toList)))) = !decide (p=q):=by
 obtain ⟨a,b,c⟩:=p
 obtain ⟨a',b',c'⟩:=q
 dsimp only
 rw [same_str]
 by_cases e1:a=a' <;> by_cases e2:b=b' <;> by_cases e3:c=c' <;> simp [e1,e2,e3]
open Go.RowKit
theorem run_copy_any {P:Program} (w:World) (dT sT ty elem:TypeId) (k g off dLen dCap:Nat) (sp:Option Addr) (sLen sCap:Nat) (cur:List Value) (t:TypeId) (cs:List Value)
  (hu:P.underlying dT=some (.slice elem)) (hs:(P.info? elem).map (·.size)=some k)
  (hg:w.heap[g]?=some (.cells cur.toArray t (0,0))) (hn:cs.length=Nat.min sLen dLen * k)
  (hsrc:∀ j v,cs[j]?=some v→∃ ad,sp=some ad∧w.cell? (ad.add j)=some v) (hfit:off+cs.length≤cur.length) (h1:∀ v ∈ cs,v.oneCell'=true) :
  (Builtin.copy_ #[dT,sT] ty #[.slice (some ⟨g,off,none⟩) dLen dCap,.slice sp sLen sCap]).run P w =
   .ok (goInt (Nat.min sLen dLen)) (w.setRow g (splice cur off cs).toArray):=by
 have hst:=run_storeCells_at P g off t cs 0 cur.toArray w hg (by simpa using hfit) h1
 have e0:(cur.toArray.toList.take (off+0) ++ cs ++ cur.toArray.toList.drop (off+0+cs.length)).toArray=(splice cur off cs).toArray:=by simp [splice]
 rw [e0] at hst
 cases hq:P.info? elem with
 | none=>simp [hq] at hs
 | some i =>
  have hi:i.size=k:=by simpa [hq] using hs
  cases sp with
  | none =>
   obtain rfl:cs=[]:=by
    cases cs with
    | nil=>rfl
    | cons v T=>obtain ⟨ad,e,-⟩:=hsrc 0 v rfl; cases e
   simp [Builtin.copy_,run_underlying hu,Builtin.lenOf,Builtin.firstCells,sizeOf,typeInfo,hq,hst]
  | some a =>
   have hl:=run_loadCells_list (P:=P) w a cs (fun j v hv=>by obtain ⟨ad,e,h⟩:=hsrc j v hv; cases e; exact h)
   simp [Builtin.copy_,run_underlying hu,Builtin.lenOf,Builtin.firstCells,sizeOf,typeInfo,hq,hi,← hn,hl,hst]
theorem stCells_flat (l:List Qm.St):stCells l=(Pm.flat l).map fun i=>Value.int .i64 i:=by
 induction l with
 | nil=>rfl
 | cons a l ih =>
  have e1:stCells (a :: l)=[.int .i64 a.1,.int .i64 a.2] ++ stCells l:=by simp [stCells]
  have e2:Pm.flat (a :: l)=[a.1,a.2] ++ Pm.flat l:=by simp [Pm.flat]
  rw [e1,e2,ih,List.map_append]
  rfl
def ovC (n:Qm.St) (p k:Int):List Value:=[.int .i64 n.1,.int .i64 n.2,.int .i64 p,.int .i64 0,.int .i64 0,.int .i64 0,.int .i64 0,.int .i64 0,.int .i64 0,.int .i64 0,.int .i64 0,.int .i64 0,.int .i64 0,.int .i64 0,.int .i64 0,.int .i64 0,.int .i64 0,.int .i64 0,.int .i64 0,.int .i64 k]
theorem ovC_name (n:Qm.St) (l:List Qm.St) (p:Int):splice (ovC n p l.length) 3 (stCells (l.take 8))=(Pm.nameO n l p).map fun i=>Value.int .i64 i:=by
 have e:ovC n p l.length=[.int .i64 n.1,.int .i64 n.2,.int .i64 p] ++ (List.replicate 16 (.int .i64 0) ++ [.int .i64 (l.length:Int)]):=rfl
 unfold splice
 have t3:∀ T:List Value,List.take 3 ([.int .i64 n.1,.int .i64 n.2,.int .i64 p] ++ T)=[.int .i64 n.1,.int .i64 n.2,.int .i64 p]:=fun T=>rfl
 have d3:∀ T:List Value,List.drop 3 ([.int .i64 n.1,.int .i64 n.2,.int .i64 p] ++ T)=T:=fun T=>rfl
 rw [e,t3,← List.drop_drop,d3]
 unfold Pm.nameO Pm.pad
 rw [List.map_append,List.map_append,List.map_append,← stCells_flat,List.map_replicate]
 have h2:(stCells (l.take 8)).length=2 * (l.take 8).length:=by rw [stCells_length,Nat.mul_comm]
 have h3:2 * (l.take 8).length≤16:=by rw [List.length_take]; omega
 rw [h2,List.drop_append_of_le_length (by simpa using h3),List.drop_replicate]
 simp
theorem ovC_one (n:Qm.St) (p k:Int):(ovC n p k).toArray.all (·.oneCell')=true:=all_oneCell_toArray (cs:=ovC n p k) (by
 intro v hv
 unfold ovC at hv
 simp only [List.mem_cons,List.not_mem_nil,or_false] at hv
 rcases hv with rfl | rfl | rfl | rfl | rfl | rfl | rfl | rfl | rfl | rfl | rfl | rfl | rfl | rfl | rfl | rfl | rfl | rfl | rfl | rfl <;> rfl)
theorem nmO_size (n:Qm.St) (l:List Qm.St) (p:Int):((Pm.nameO n l p).map fun i=>Value.int .i64 i).toArray.size=20:=by
 rw [List.size_toArray,List.length_map,Pm.nameO_length]
theorem overOf_any (n:Qm.St) (q:Option Addr) (l:List Qm.St) (c:Nat) (p:Int) (w:World) (h:Rd w q (stCells l)) :
  Calls Tryz.prog 230 #[.agg #[.int .i64 n.1,.int .i64 n.2],.slice q l.length c,.int .i64 p] w fun e w'=>e=.returned (kV (Pm.nameO n l p))∧Below w.heap.size w w':=by
 obtain ⟨n1,n2⟩:=n
 have HR:=Hi h
 obtain ⟨A,hA⟩:∃ A,A=((Pm.nameO (n1,n2) l p).map fun i=>Value.int .i64 i).toArray:=⟨_,rfl⟩
 have HSZ:=Hi (show A.size=20 from by rw [hA]; exact nmO_size _ _ _)
 have HON:=Hi (show A.all (·.oneCell')=true from by rw [hA]; exact kV_one _)
 rw [show kV (Pm.nameO (n1,n2) l p)=.agg A from by rw [hA]]
 have HAE:=Hi hA
 clear hA
 have HS:=Hi ((AgAt.new w #[.int .i64 n1,.int .i64 n2] 35).kept ((Below.refl _ _).alloc (Nat.le_refl _) (.cells (ovC (0,0) 0 0).toArray 293)))
 have HO:=Hi (AgAt.new (w.alloc (.cells #[.int .i64 n1,.int .i64 n2] 35)) (ovC (0,0) 0 0).toArray 293)
 rw [World.size_alloc] at HO
 have HB:=Hi (((Below.refl w.heap.size w).alloc (Nat.le_refl _) (.cells #[.int .i64 n1,.int .i64 n2] 35)).alloc (by simp) (.cells (ovC (0,0) 0 0).toArray 293))
 clear h
 have HZ:=Hi (AgAt.new ((w.alloc (.cells #[.int .i64 n1,.int .i64 n2] 35)).alloc (.cells (ovC (0,0) 0 0).toArray 293)) (ovC (0,0) 0 0).toArray 293)
 rw [World.size_alloc,World.size_alloc] at HZ
 have HBZ:=Hi (HB.out.alloc (B:=w.heap.size) (by simp; omega) (.cells (ovC (0,0) 0 0).toArray 293))
 replace HO:=Hi (HO.out.kept ((Below.refl _ _).alloc (Nat.le_refl _) (.cells (ovC (0,0) 0 0).toArray 293)))
 go_enter Tryz.func230,Tryz.ntmps230
 go_upto_region 2 with (refine wpList_store_ag oA rfl _ _ rfl _ rfl _ HZ.out rfl rfl rfl (ovC_one (n1,n2) p l.length) ?_; intro w3 hv3 hko3 hsz3 hbn3)
 have hb3:=hbn3 _ _ HBZ.out (by omega)
 obtain ⟨T3,hg3⟩:=hv3
 have hcp:=fun ty=>run_copy_any (P:=Tryz.prog) w3 36 36 ty 35 2 (w.heap.size+1+1) 3 8 8 q l.length c (ovC (n1,n2) p l.length) T3 (stCells (l.take 8)) Tryz.underlying36 (by kernel_rfl) hg3 (by rw [stCells_length,List.length_take,Nat.min_comm])
  (fun j v hv=>by
   obtain ⟨hj,-⟩:=List.getElem?_eq_some_iff.1 hv
   rw [stCells_length,List.length_take] at hj
   obtain ⟨b,o,rfl,hc⟩:=HR.out (by rw [stCells_length]; omega)
   refine ⟨⟨b,o,none⟩,rfl,?_⟩
   have h1:(stCells l)[j]?=some v:=by
    have e:stCells l=stCells (l.take 8) ++ stCells (l.drop 8):=by rw [← stCells_append,List.take_append_drop]
    rw [e,List.getElem?_append_left (by rw [stCells_length,List.length_take]; exact hj)]
    exact hv
   have h2:=cell_lt (hc j v h1)
   rw [Go.WideShapes.add_plain,World.cell?_of_block (w:=w) (hb3.block b h2)]
   exact hc j v h1)
  (by rw [stCells_length,List.length_take]; show 3+_≤20; omega) stCells_one
 rw [ovC_name,← HAE.out] at hcp
 have hg4:=setRow_heap w3 (w.heap.size+1+1) _ A T3 _ hg3
 have hoth:∀ k,k≠w.heap.size+1+1→(w3.setRow (w.heap.size+1+1) A).heap[k]?=w3.heap[k]?:=fun k hk=>setRow_other w3 _ k _ hk
 have HV4:=Hi (show AgAt (w3.setRow (w.heap.size+1+1) A) (w.heap.size+1+1) A from ⟨T3,hg4⟩)
 have HO4:=Hi (HO.out.block ((hoth _ (by omega)).trans (hko3 _ (by omega))))
 have HB4:=Hi (show Below w.heap.size w (w3.setRow (w.heap.size+1+1) A) from hb3.trans ⟨rfl,rfl,rfl,by simp [World.setRow],fun k hk=>hoth k (by omega)⟩)
 clear hg3 hg4 hoth hb3 hbn3 hko3 hsz3 HS HO HZ HBZ HR HB
 generalize w3.setRow (w.heap.size+1+1) A=w4 at *
 go_upto_region 3 with fail
 clear hcp
 go_wp2_with (first | (refine wpList_load_ag oA rfl _ rfl _ rfl HSZ.out HV4.out ?_) | (refine wpList_store_ag oA rfl _ _ rfl _ rfl _ HO4.out rfl rfl HSZ.out HON.out ?_; intro w5 hv5 hko5 hsz5 hbn5))
 refine bodyPost_ret (results_ag oA _ rfl HSZ.out hv5 rfl) rfl ?_
 exact ⟨rfl,hbn5 _ _ HB4.out (by omega)⟩
end Go.Proofs.YthfhefdfehlbkaaGreat

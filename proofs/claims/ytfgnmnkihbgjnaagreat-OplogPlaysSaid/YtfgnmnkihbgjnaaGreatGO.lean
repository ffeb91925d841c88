/-
  LOGS IN MEMORY: rows of batches, where their ops lie; the map of those that wait; a log's own block of seventeen cells; what keeps all of it.
  No conditions but sizes.
  THE MAP OF THOSE THAT WAIT: look-ups, a store at a new place, what is taken out, how many.
  No conditions but sizes.
  COPIES: of an op, of a row of ops, of a batch, of a row of batches: none of it lies where the old one lies.
  No conditions but sizes.
  COPIES of a batch, and of a row of batches.
  No conditions but sizes.
  A ROW OF BATCHES THAT GROWS, a call's own ('BRow'): append of a batch to it; copies of a row.
  No conditions but sizes.
  LOGS, PLAINLY: of each replica its batches, those that wait; what Add does; how many there are.
  No conditions.
-/
import Derived.Test.YtfgnmnkihbgjnaaGreatSh
import Derived.Test.YtfgnmnkihbgjnaaGreatGH
import Derived.Test.YtfgnmnkihbgjnaaGreatGG
import Derived.Maps.Views
import Derived.Maps.OwnOps
import Derived.DeepKeys4
import Derived.Test.YtfgnmnkihbgjnaaGreatHD
set_option maxRecDepth 100000
set_option maxHeartbeats 8000000
namespace Go.Proofs.YtfgnmnkihbgjnaaGreat
open Go.RowKit
open Go.Maps (Keyed)
theorem set_turns (b:Nat) (w:World) (i:Nat) (v:Value):Turns (fun k=>k=b) w (w.setCell ⟨b,i,none⟩ v):=⟨rfl,rfl,rfl,by simp,fun k _ hk=>heap_setCell_other w ⟨b,i,none⟩ k v hk⟩
theorem stored_turns {w w':World} {b:Nat} (hko:∀ k,k≠b→w'.heap[k]?=w.heap[k]?) (hsz:w'.heap.size=w.heap.size) (hbn:∀ B w0,Below B w0 w→B≤b→Below B w0 w'):Turns (fun k=>k=b) w w' :=
 have h0:=hbn 0 _ (Below.refl 0 _) (Nat.zero_le _)
 ⟨h0.os,h0.tape,h0.output,by rw [hsz]; exact Nat.le_refl _,fun k _ hk=>hko k hk⟩
structure Be where
 x:Bat
 p:Option Addr
 c:Nat
def beL (e:Be):List Value:=[.int .i64 e.x.r,.int .i64 e.x.s,.int .i64 e.x.t,.slice e.p e.x.ops.length e.c]
def beCells (l:List Be):List Value:=l.flatMap beL
def beOf (l:List Be) (i:Nat):Be:=l.getD i ⟨Bat.zero,none,0⟩
theorem beL_length (e:Be):(beL e).length=4:=rfl
theorem beL_arr (e:Be):(beL e).toArray=btA e.x e.p e.c:=rfl
theorem beCells_length (l:List Be):(beCells l).length=l.length * 4:=by
 induction l with
 | nil=>rfl
 | cons a l ih=>simp only [beCells,List.flatMap_cons,List.length_append,List.length_cons,beL_length] at ih ⊢; omega
theorem beCells_append (l m:List Be):beCells (l ++ m)=beCells l ++ beCells m:=by simp [beCells]
theorem beCells_sing (e:Be):beCells [e]=beL e:=by simp [beCells]
theorem beL_one (e:Be):∀ u ∈ beL e,u.oneCell'=true:=by
 intro u hu
 simp only [beL,List.mem_cons,List.not_mem_nil,or_false] at hu
 rcases hu with rfl | rfl | rfl | rfl <;> rfl
theorem beCells_one {l:List Be}:∀ u ∈ beCells l,u.oneCell'=true:=by
 intro u hu
 obtain ⟨x,_,hx⟩:=List.mem_flatMap.1 hu
 exact beL_one x u hx
theorem beCells_get (l:List Be) (i j:Nat) (h:i<l.length) (hj:j<4):(beCells l)[i * 4+j]?=(beL (beOf l i))[j]?:=by
 induction l generalizing i with
 | nil=>simp at h
 | cons a l ih =>
  have e0:beCells (a :: l)=beL a ++ beCells l:=by simp [beCells]
  rw [e0]
  cases i with
  | zero =>
   rw [Nat.zero_mul,Nat.zero_add,List.getElem?_append_left (by rw [beL_length]; exact hj)]
   rfl
  | succ i =>
   rw [List.getElem?_append_right (by rw [beL_length]; omega),beL_length,show (i+1) * 4+j - 4=i * 4+j from by omega,ih i (by simpa using h)]
   rfl
theorem beCells_drop (l:List Be) (n:Nat):(beCells l).drop (n * 4)=beCells (l.drop n):=by
 induction l generalizing n with
 | nil=>simp [beCells]
 | cons a l ih =>
  cases n with
  | zero=>simp [beCells]
  | succ i =>
   have e0:beCells (a :: l)=beL a ++ beCells l:=by simp [beCells]
   rw [e0,show (i+1) * 4=4+i * 4 from by omega,← List.drop_drop]
   have e1:(beL a ++ beCells l).drop 4=beCells l:=by rw [← beL_length a,List.drop_left]
   rw [e1,ih]
   rfl
theorem beOf_mem {l:List Be} {i:Nat} (h:i<l.length):beOf l i ∈ l:=by
 have:beOf l i=l[i]:=by simp [beOf,h]
 rw [this]; exact List.getElem_mem h
theorem Rd.be {w:World} {b o:Nat} {l:List Be} (h:Rd w (some ⟨b,o,none⟩) (beCells l)) (i:Nat) (hi:i<l.length):w.rangeAt b (o+i * 4) (beL (beOf l i)):=by
 intro j v hv
 have hj:j<4:=by have:=(List.getElem?_eq_some_iff.1 hv).1; rw [beL_length] at this; exact this
 rw [Nat.add_assoc]
 exact h.cell (by rw [beCells_get l i j hi hj]; exact hv)
theorem wpList_load_be {w:World} {t:TypeId} (V:AgT t 4) {ops:Array Oper} {rest:List Oper} {o:Oper} {a:Act} {Q:Exit→Act→World→Prop} (hgd:o.guard=none) (y:Operand) (ho:o.op=.load t y)
  (b s i:Nat) (hx:a.eval y=.pointer (some ⟨b,s+i * 4,none⟩)) (l:List Be) (hrd:Rd w (some ⟨b,s,none⟩) (beCells l)) (hi:i<l.length)
  (h:wpList Tryz.prog ops Q rest (a.put o.dst (.agg (btA (beOf l i).x (beOf l i).p (beOf l i).c))) w):wpList Tryz.prog ops Q (o :: rest) a w:=by
 obtain ⟨d,hu⟩:=V.und
 exact wpList_load_mid hgd t y ho b (s+i * 4) hx (beL (beOf l i)) _ (hrd.be i hi) hu rfl V.size h
def BopsF (F:Nat→Prop) (w:World) (x:Bat) (p:Option Addr) (c:Nat):Prop :=
 ∃ l,Os w p c l x.ops∧(0<x.ops.length→∀ a,p=some a→F a.block)∧∀ e,e ∈ l→0<e.x.path.length→∀ a,e.q=some a→F a.block
section
variable {F G:Nat→Prop} {w w':World} {x:Bat} {p:Option Addr} {c:Nat}
theorem BopsF.bops (h:BopsF F w x p c):Bops w x p c:=⟨_,h.choose_spec.1⟩
theorem BopsF.mono (h:BopsF F w x p c) (hm:∀ k,k<w.heap.size→F k→G k):BopsF G w x p c:=by
 obtain ⟨l,h1,h2,h3⟩:=h
 refine ⟨l,h1,fun h0 a ha=>?_,fun e he h0 a ha=>?_⟩
 ·obtain ⟨b,o,e,hb⟩:=h1.rd.addr (by rw [enCells_length,h1.len]; omega)
  rw [ha] at e; cases e
  exact hm _ hb (h2 h0 _ ha)
 ·obtain ⟨b,o,e',hb⟩:=(h1.pa e he).rd.addr (by rw [stCells_length]; omega)
  rw [ha] at e'; cases e'
  exact hm _ hb (h3 e he h0 _ ha)
theorem BopsF.turns (h:BopsF F w x p c) (ht:Turns G w w') (hd:∀ k,F k→¬ G k):BopsF F w' x p c:=by
 obtain ⟨l,h1,h2,h3⟩:=h
 have rdk:∀ {q:Option Addr} {us:List Value},Rd w q us→(0<us.length→∀ a,q=some a→F a.block)→Rd w' q us:=by
  intro q us hr hf h0
  obtain ⟨b,o,rfl,hc⟩:=hr h0
  have hF:F b:=hf h0 ⟨b,o,none⟩ rfl
  exact ⟨b,o,rfl,fun i u hu=>ht.cell (hc i u hu) (hd _ hF)⟩
 refine ⟨l,⟨h1.map,rdk h1.rd fun h0=>h2 (by rw [enCells_length,h1.len] at h0; omega),fun e he=>⟨rdk (h1.pa e he).rd fun h0=>h3 e he (by rw [stCells_length] at h0; omega),(h1.pa e he).nil,(h1.pa e he).cap⟩,h1.nil,h1.cap⟩,h2,h3⟩
theorem BopsF.below (h:BopsF F w x p c) (hb:Below w.heap.size w w'):BopsF F w' x p c:=by
 obtain ⟨l,h1,h2,h3⟩:=h
 exact ⟨l,h1.kept hb,h2,h3⟩
theorem BopsF.ofN {B:Nat} (h:BopsN B w x p c):BopsF (fun k=>B≤k) w x p c:=h
theorem BopsF.zero (F:Nat→Prop) (w:World):BopsF F w Bat.zero none 0:=⟨[],Os.empty w,fun h=>(by cases h),fun _ h=>(by cases h)⟩
end
theorem laidB9:laidOutB Tryz.prog=true:=by kernel_rfl
theorem lawPl:Keyed Tryz.prog 81:=Keyed.of_law (deep_law_laid laidB9 (m:=2) (by omega) (of_decide_eq_true (by kernel_rfl)) (by kernel_rfl) (by kernel_rfl))
abbrev plA (r s:Int):Value:=.agg #[.int .i64 r,.int .i64 s]
theorem key_pl (r s:Int) (h0:(Lit.int .i64 r).wf=true) (h1:(Lit.int .i64 s).wf=true):∃ l,keyOf Tryz.prog 81 (plA r s)=some l:=by
 have hkt:Tryz.prog.keyType 81=true:=by kernel_rfl
 have hsz:2≤Tryz.prog.types.size:=of_decide_eq_true (by kernel_rfl)
 obtain ⟨m,hm⟩:∃ m,Tryz.prog.types.size=m+1:=⟨Tryz.prog.types.size - 1,by omega⟩
 have c2:Tryz.prog.cellsOf 81=2:=by kernel_rfl
 have c3:Tryz.prog.cellsOf 3=1:=by kernel_rfl
 have hu:=Tryz.underlying81
 have hi:=Tryz.underlying3
 have k1:∀ (n:Nat) (a:Int),(Lit.int .i64 a).wf=true→Tryz.prog.keyLits (n+1) 3 [.int .i64 a]=some [.int .i64 a]:=fun n a ha=>by
  simp [Program.keyLits,hi,ha]
 have k3:∃ ls,Tryz.prog.keyLits (Tryz.prog.types.size+1) 81 (plA r s).cells.toList=some ls:=by
  rw [hm]
  unfold Program.keyLits
  simp only [hu]
  rw [if_pos ⟨by rw [c2]; rfl,by kernel_rfl⟩]
  simp [Value.cells,c3,k1 _ _ h0,k1 _ _ h1]
 obtain ⟨ls,hls⟩:=k3
 refine ⟨.string (keyBytes ls),?_⟩
 unfold keyOf
 simp only [hu]
 rw [if_pos (by simp [hkt,Value.formed,hu,c2]),hls]
 rfl
theorem plA_inj {r s r' s':Int} (h:plA r s=plA r' s'):r=r'∧s=s':=by
 simp only [Value.agg.injEq] at h
 have h4:=congrArg Array.toList h
 simpa using h4
def atPl (r s:Int) (x:Bat):Bool:=x.r == r && x.s == s
theorem atPl_iff {r s:Int} {x:Bat}:atPl r s x=true↔x.r=r∧x.s=s:=by simp [atPl]
def plWf (x:Bat):Prop:=(Lit.int .i64 x.r).wf=true∧(Lit.int .i64 x.s).wf=true
theorem plWf_of {x:Bat} (h:rightT x=true):plWf x:=by
 obtain ⟨h1,h2,-⟩:=rightT_iff.1 h
 have e1:IntKind.i64.min = -9223372036854775808:=by decide
 have e2:IntKind.i64.max=9223372036854775807:=by decide
 constructor <;> simp [Lit.wf,e1,e2] <;> omega
structure WMap (w:World) (M:Nat) (l:List Be):Prop where
 ex:∃ es clock,w.heap[M]?=some (.map es clock)∧es.toList.map (fun e=>(e.key,e.val))=l.map fun b=>(plA b.x.r b.x.s,Value.agg (btA b.x b.p b.c))
 wf:∀ e ∈ l,plWf e.x
 apart:l.Pairwise fun a b=>¬ (a.x.r=b.x.r∧a.x.s=b.x.s)
 fresh:∃ es clock,w.heap[M]?=some (.map es clock)∧(∀ e ∈ es.toList,e.born<clock)∧(es.toList.map (·.born)).Nodup
section
variable {w w':World} {M:Nat} {l:List Be}
theorem WMap.lt (h:WMap w M l):M<w.heap.size:=by
 obtain ⟨es,clock,hb,-⟩:=h.ex
 exact (Array.getElem?_eq_some_iff.1 hb).1
theorem WMap.block (h:WMap w M l) (e:w'.heap[M]?=w.heap[M]?):WMap w' M l:=by
 obtain ⟨es,clock,hb,h1⟩:=h.ex
 obtain ⟨es2,clock2,hb2,h2⟩:=h.fresh
 exact ⟨⟨es,clock,e.trans hb,h1⟩,h.wf,h.apart,⟨es2,clock2,e.trans hb2,h2⟩⟩
theorem WMap.turns {G:Nat→Prop} (h:WMap w M l) (ht:Turns G w w') (hd:¬ G M):WMap w' M l:=h.block (ht.block M h.lt hd)
theorem WMap.made (w:World):WMap (w.alloc (.map #[] 0)) w.heap.size []:=⟨⟨#[],0,heap_alloc_new w _,rfl⟩,fun _ h=>(by cases h),List.Pairwise.nil,⟨#[],0,heap_alloc_new w _,fun _ h=>(by cases h),List.Pairwise.nil⟩⟩
theorem WMap.keys (h:WMap w M l) {es:Array MapEntry} (he:es.toList.map (fun e=>(e.key,e.val))=l.map fun b=>(plA b.x.r b.x.s,Value.agg (btA b.x b.p b.c))):∀ e ∈ es.toList,∃ k,keyOf Tryz.prog 81 e.key=some k:=by
 intro e hm
 have:(e.key,e.val) ∈ l.map fun b=>(plA b.x.r b.x.s,Value.agg (btA b.x b.p b.c)):=by rw [← he]; exact List.mem_map.2 ⟨e,hm,rfl⟩
 obtain ⟨b,hb,e'⟩:=List.mem_map.1 this
 simp only [Prod.mk.injEq] at e'
 rw [← e'.1]
 exact key_pl _ _ (h.wf b hb).1 (h.wf b hb).2
end
open Go.RowKit
open Go.Maps (Keyed)
theorem setBlock_turns {w:World} {M clock:Nat} {es:Array MapEntry} (hb:w.heap[M]?=some (.map es clock)) (o:Obj):Turns (fun k=>k=M) w (Go.ChangeMaps.setBlock w M o) :=
 ⟨rfl,rfl,rfl,by simp [Go.ChangeMaps.setBlock],fun k _ hk=>Go.ChangeMaps.heap_setBlock_other hb _ (fun e=>hk e)⟩
section
variable {w:World} {M:Nat} {l:List Be}
theorem WMap.mem_of {es:Array MapEntry} (he:es.toList.map (fun e=>(e.key,e.val))=l.map fun b=>(plA b.x.r b.x.s,Value.agg (btA b.x b.p b.c))) {e0:MapEntry} (hm:e0 ∈ es.toList) {r s:Int} (hk:e0.key=plA r s) :
  ∃ b ∈ l,atPl r s b.x=true∧e0.val=Value.agg (btA b.x b.p b.c):=by
 have:(e0.key,e0.val) ∈ l.map fun b=>(plA b.x.r b.x.s,Value.agg (btA b.x b.p b.c)):=by rw [← he]; exact List.mem_map.2 ⟨e0,hm,rfl⟩
 obtain ⟨b,hb,e'⟩:=List.mem_map.1 this
 simp only [Prod.mk.injEq] at e'
 exact ⟨b,hb,atPl_iff.2 (plA_inj (e'.1.trans hk)),e'.2.symm⟩
theorem WMap.of_mem {es:Array MapEntry} (he:es.toList.map (fun e=>(e.key,e.val))=l.map fun b=>(plA b.x.r b.x.s,Value.agg (btA b.x b.p b.c))) {b:Be} (hb:b ∈ l):∃ e0 ∈ es.toList,e0.key=plA b.x.r b.x.s:=by
 have:(plA b.x.r b.x.s,Value.agg (btA b.x b.p b.c)) ∈ es.toList.map (fun e=>(e.key,e.val)):=by rw [he]; exact List.mem_map.2 ⟨b,hb,rfl⟩
 obtain ⟨e,hm,e'⟩:=List.mem_map.1 this
 simp only [Prod.mk.injEq] at e'
 exact ⟨e,hm,e'.1⟩
theorem be_one (h:l.Pairwise fun a b=>¬ (a.x.r=b.x.r∧a.x.s=b.x.s)) {a b:Be} (ha:a ∈ l) (hb:b ∈ l) {r s:Int} (h1:atPl r s a.x=true) (h2:atPl r s b.x=true):a=b:=by
 have e1:=atPl_iff.1 h1
 have e2:=atPl_iff.1 h2
 induction l with
 | nil=>cases ha
 | cons c l ih =>
  obtain ⟨k1,k2⟩:=List.pairwise_cons.1 h
  rcases List.mem_cons.1 ha with rfl | ha' <;> rcases List.mem_cons.1 hb with rfl | hb'
  ·rfl
  ·exact absurd ⟨by rw [e1.1,e2.1],by rw [e1.2,e2.2]⟩ (k1 b hb')
  ·exact absurd ⟨by rw [e1.1,e2.1],by rw [e1.2,e2.2]⟩ (k1 a ha')
  ·exact ih k2 ha' hb'
theorem WMap.look_no (h:WMap w M l) (r s:Int) (hr:(Lit.int .i64 r).wf=true) (hs:(Lit.int .i64 s).wf=true) (hn:∀ b ∈ l,atPl r s b.x=false) :
  (Instr.lookup 73 (.map (some M)) (plA r s) true).run Tryz.prog w=.ok (.tuple #[.agg (btA Bat.zero none 0),.bool false]) w:=by
 obtain ⟨es,clock,hb,he⟩:=h.ex
 obtain ⟨kl,hkey⟩:=key_pl r s hr hs
 rcases lawPl.find w hkey es.toList (h.keys he) with ⟨h1,h2⟩ | ⟨j,e0,h1,h2,h3⟩
 ·simp [Instr.lookup,run_underlying Tryz.underlying73,MapKept.run_getObj_map hb,lawPl.check w _ hkey,h1,Result.andThen]
  rfl
 ·obtain ⟨b,hb',h4,-⟩:=WMap.mem_of he (List.mem_of_getElem? h2) h3
  rw [hn b hb'] at h4
  cases h4
theorem WMap.look_yes (h:WMap w M l) {b:Be} (hm:b ∈ l) (r s:Int) (hat:atPl r s b.x=true) :
  (Instr.lookup 73 (.map (some M)) (plA r s) true).run Tryz.prog w=.ok (.tuple #[.agg (btA b.x b.p b.c),.bool true]) w:=by
 obtain ⟨es,clock,hb,he⟩:=h.ex
 have e1:=atPl_iff.1 hat
 have hw:=h.wf b hm
 unfold plWf at hw
 rw [e1.1,e1.2] at hw
 obtain ⟨kl,hkey⟩:=key_pl r s hw.1 hw.2
 rcases lawPl.find w hkey es.toList (h.keys he) with ⟨h1,h2⟩ | ⟨j,e0,h1,h2,h3⟩
 ·obtain ⟨e0,h3,h4⟩:=WMap.of_mem he hm
  rw [e1.1,e1.2] at h4
  exact absurd h4 (h2 e0 h3)
 ·obtain ⟨b',hb',h4,h5⟩:=WMap.mem_of he (List.mem_of_getElem? h2) h3
  obtain rfl:=be_one h.apart hm hb' hat h4
  simp [Instr.lookup,run_underlying Tryz.underlying73,MapKept.run_getObj_map hb,lawPl.check w _ hkey,h1,h5,Result.andThen]
theorem WMap.upd (h:WMap w M l) (b:Be) (hw:plWf b.x) (hn:∀ a ∈ l,atPl b.x.r b.x.s a.x=false) :
  ∃ w',(Instr.mapUpdate 73 (.map (some M)) (plA b.x.r b.x.s) (.agg (btA b.x b.p b.c))).run Tryz.prog w=.ok () w'∧WMap w' M (l ++ [b])∧Turns (fun k=>k=M) w w'∧w'.heap.size=w.heap.size:=by
 obtain ⟨es,clock,hb,he⟩:=h.ex
 obtain ⟨kl,hkey⟩:=key_pl b.x.r b.x.s hw.1 hw.2
 rcases lawPl.find w hkey es.toList (h.keys he) with ⟨h1,h2⟩ | ⟨j,e0,h1,h2,h3⟩
 ·refine ⟨Go.ChangeMaps.setBlock w M (.map (es.push ⟨plA b.x.r b.x.s,.agg (btA b.x b.p b.c),clock⟩) (clock+1)),?_,⟨⟨_,_,Go.ChangeMaps.heap_setBlock_same hb _,?_⟩,?_,?_,⟨_,_,Go.ChangeMaps.heap_setBlock_same hb _,?_,?_⟩⟩,setBlock_turns hb _,by simp [Go.ChangeMaps.setBlock]⟩
  ·simp [Instr.mapUpdate,run_underlying Tryz.underlying73,MapKept.run_getObj_map hb,lawPl.check w false hkey,h1,MapKept.run_setObj_map _ hb,Result.andThen,Go.ChangeMaps.setBlock]
  ·simp [he]
  ·intro e hm
   rcases List.mem_append.1 hm with hm | hm
   ·exact h.wf e hm
   ·obtain rfl:e=b:=by simpa using hm
    exact hw
  ·refine List.pairwise_append.2 ⟨h.apart,List.pairwise_singleton _ _,fun a ha c hc=>?_⟩
   obtain rfl:c=b:=by simpa using hc
   intro hh
   have:=hn a ha
   rw [atPl_iff.2 hh] at this
   cases this
  ·obtain ⟨es2,clock2,hb2,hf1,-⟩:=h.fresh
   obtain ⟨rfl,rfl⟩:es2=es∧clock2=clock:=by rw [hb] at hb2; cases hb2; exact ⟨rfl,rfl⟩
   intro e hm
   rw [Array.toList_push] at hm
   rcases List.mem_append.1 hm with hm | hm
   ·have:=hf1 e hm
    omega
   ·obtain rfl:=List.mem_singleton.1 hm
    exact Nat.lt_succ_self _
  ·obtain ⟨es2,clock2,hb2,hf1,hf2⟩:=h.fresh
   obtain ⟨rfl,rfl⟩:es2=es∧clock2=clock:=by rw [hb] at hb2; cases hb2; exact ⟨rfl,rfl⟩
   rw [Array.toList_push,List.map_append]
   refine List.nodup_append.2 ⟨hf2,by simp,fun x hx y hy e=>?_⟩
   obtain ⟨z,hz,rfl⟩:=List.mem_map.1 hx
   have h1:=hf1 z hz
   have h2:y=clock2:=by simpa using hy
   omega
 ·obtain ⟨a,ha,h4,-⟩:=WMap.mem_of he (List.mem_of_getElem? h2) h3
  rw [hn a ha] at h4
  cases h4
theorem WMap.del (h:WMap w M l) {b:Be} (hm:b ∈ l) (r s:Int) (hat:atPl r s b.x=true) :
  ∃ w',(∀ ty,(Builtin.delete_ #[73,81] ty #[.map (some M),plA r s]).run Tryz.prog w=.ok (.tuple #[]) w')∧WMap w' M (l.filter fun a=>!atPl r s a.x)∧Turns (fun k=>k=M) w w'∧w'.heap.size=w.heap.size:=by
 obtain ⟨es,clock,hb,he⟩:=h.ex
 have e1:=atPl_iff.1 hat
 have hw:=h.wf b hm
 unfold plWf at hw
 rw [e1.1,e1.2] at hw
 obtain ⟨kl,hkey⟩:=key_pl r s hw.1 hw.2
 rcases lawPl.find w hkey es.toList (h.keys he) with ⟨h1,h2⟩ | ⟨j,e0,h1,h2,h3⟩
 ·obtain ⟨e0,h3,h4⟩:=WMap.of_mem he hm
  rw [e1.1,e1.2] at h4
  exact absurd h4 (h2 e0 h3)
 ·have hjl:j<es.toList.length:=(List.getElem?_eq_some_iff.1 h2).1
  have hjs:j<es.size:=by simpa using hjl
  have hsub:(es.eraseIdxIfInBounds j).toList=es.toList.eraseIdx j:=by
   unfold Array.eraseIdxIfInBounds
   rw [dif_pos hjs]
   simp
  have hll:l.length=es.toList.length:=by have:=congrArg List.length he; simpa using this.symm
  have hjb:∃ a,l[j]?=some a:=⟨_,List.getElem?_eq_getElem (by omega)⟩
  obtain ⟨a,hja⟩:=hjb
  have hae:atPl r s a.x=true:=by
   have h6:(es.toList.map fun e=>(e.key,e.val))[j]?=(l.map fun b=>(plA b.x.r b.x.s,Value.agg (btA b.x b.p b.c)))[j]?:=by rw [he]
   rw [List.getElem?_map,List.getElem?_map,h2,hja] at h6
   simp only [Option.map_some,Option.some.injEq,Prod.mk.injEq] at h6
   exact atPl_iff.2 (plA_inj (h6.1.symm.trans h3))
  have hfil:=Go.ChangeMaps.filter_eq_eraseIdx (fun a:Be=>atPl r s a.x) l j a hja hae (h.apart.imp fun {a b} hne ⟨k1,k2⟩=>hne ⟨(atPl_iff.1 k1).1.trans (atPl_iff.1 k2).1.symm,(atPl_iff.1 k1).2.trans (atPl_iff.1 k2).2.symm⟩)
  refine ⟨Go.ChangeMaps.setBlock w M (.map (es.eraseIdxIfInBounds j) clock),?_,⟨⟨_,_,Go.ChangeMaps.heap_setBlock_same hb _,?_⟩,?_,?_,⟨_,_,Go.ChangeMaps.heap_setBlock_same hb _,?_,?_⟩⟩,setBlock_turns hb _,by simp [Go.ChangeMaps.setBlock]⟩
  ·intro ty
   simp [Builtin.delete_,run_underlying Tryz.underlying73,MapKept.run_getObj_map hb,lawPl.check w _ hkey,h1,MapKept.run_setObj_map _ hb,Result.andThen,Go.ChangeMaps.setBlock]
  ·rw [hsub,hfil,Go.ChangeMaps.map_eraseIdx,he,Go.ChangeMaps.map_eraseIdx]
  ·exact fun e hm=>h.wf e (List.mem_filter.1 hm).1
  ·exact h.apart.sublist List.filter_sublist
  ·obtain ⟨es2,clock2,hb2,hf1,-⟩:=h.fresh
   obtain ⟨rfl,rfl⟩:es2=es∧clock2=clock:=by rw [hb] at hb2; cases hb2; exact ⟨rfl,rfl⟩
   intro e hm
   rw [hsub] at hm
   exact hf1 e ((List.eraseIdx_sublist _ _).subset hm)
  ·obtain ⟨es2,clock2,hb2,-,hf2⟩:=h.fresh
   obtain ⟨rfl,rfl⟩:es2=es∧clock2=clock:=by rw [hb] at hb2; cases hb2; exact ⟨rfl,rfl⟩
   rw [hsub]
   exact hf2.sublist ((List.eraseIdx_sublist _ _).map _)
theorem WMap.len (h:WMap w M l) (ty:TypeId):(Builtin.len_ #[73] ty #[.map (some M)]).run Tryz.prog w=.ok (.int .i64 (l.length:Int)) w:=by
 obtain ⟨es,clock,hb,he⟩:=h.ex
 have hll:es.size=l.length:=by have:=congrArg List.length he; simpa using this
 simp [Builtin.len_,run_underlying Tryz.underlying73,MapKept.run_getObj_map hb,Result.andThen,goInt,hll]
end
open Go.RowKit
theorem agO:AgT 55 12:=⟨otP.und,otP.size⟩
def setL (xs:List Value):Nat→List Value→List Value
 | _,[]=>xs
 | o,v :: vs=>setL (xs.set o v) (o+1) vs
theorem setL_get:∀ (vs xs:List Value) (o:Nat),o+vs.length≤xs.length→∀ i,(setL xs o vs)[i]?=if o≤i∧i<o+vs.length then vs[i - o]? else xs[i]?
 | [],xs,o,_,i=>by rw [setL,if_neg (by simp)]
 | v :: vs,xs,o,h,i=>by
  rw [setL,setL_get vs _ _ (by simp at h ⊢; omega) i]
  simp only [List.length_cons] at h ⊢
  by_cases h1:o+1≤i∧i<o+1+vs.length
  ·rw [if_pos h1,if_pos (by omega)]
   obtain ⟨d,rfl⟩:∃ d,i=o+1+d:=⟨i - (o+1),by omega⟩
   rw [show o+1+d - (o+1)=d from by omega,show o+1+d - o=d+1 from by omega]
   rfl
  ·rw [if_neg h1]
   by_cases h2:i=o
   ·subst h2
    rw [if_pos (by omega),List.getElem?_set_self (by omega),Nat.sub_self]
    rfl
   ·rw [if_neg (by omega),List.getElem?_set_ne (fun e=>h2 e.symm)]
theorem setL_en (l:List En) (i:Nat) (e:En) (h:i<l.length):setL (enCells l) (i * 12) (opL e.x e.q e.c)=enCells (l.set i e):=by
 apply List.ext_getElem?
 intro j
 have hb:i * 12+12≤(enCells l).length:=by rw [enCells_length]; omega
 rw [setL_get _ _ _ (by rw [opL_length]; exact hb),opL_length]
 by_cases hj:j<(enCells l).length
 ·rw [enCells_length] at hj
  obtain ⟨a,b,rfl,hb'⟩:∃ a b,j=a * 12+b∧b<12:=⟨j / 12,j % 12,by omega,by omega⟩
  have ha:a<l.length:=by omega
  rw [enCells_get (l.set i e) a b (by simpa using ha) hb']
  have he:enOf (l.set i e) a=if a=i then e else enOf l a:=by
   unfold enOf
   by_cases q:a=i
   ·subst q; simp [List.getD,ha]
   ·simp [List.getD,q,Ne.symm q]
  by_cases q:a=i
  ·subst q
   rw [if_pos (by omega),he,if_pos rfl,show a * 12+b - a * 12=b from by omega]
  ·rw [if_neg (by omega),enCells_get l a b ha hb',he,if_neg q]
 ·rw [if_neg (by omega),List.getElem?_eq_none (by omega),List.getElem?_eq_none (by rw [enCells_length] at hj ⊢; simpa using hj)]
theorem own_setCells:∀ (vs:List Value) (w:World) {B k g n cap:Nat} {E:TypeId} {xs:List Value} (o:Nat),w.ownsRow B E k (.slice (some ⟨g,0,none⟩) n cap) n xs →
  (w.setCells g o vs).ownsRow B E k (.slice (some ⟨g,0,none⟩) n cap) n (setL xs o vs)∧w.grownBy (w.setCells g o vs) (some g)
 | [],w,_,_,_,_,_,_,_,_,h=>⟨h,⟨rfl,rfl,rfl,Nat.le_refl _,fun _ _ _=>rfl⟩⟩
 | v :: vs,w,_,_,_,_,_,_,_,o,h=>by
  obtain ⟨h1,g1⟩:=h.stored o v
  obtain ⟨h2,g2⟩:=own_setCells vs (w.setCell ⟨_,o,none⟩ v) (o+1) h1
  exact ⟨h2,⟨g2.os.trans g1.os,g2.tape.trans g1.tape,g2.output.trans g1.output,Nat.le_trans g1.size g2.size,fun k hk hn=>(g2.block k (Nat.lt_of_lt_of_le hk g1.size) hn).trans (g1.block k hk hn)⟩⟩
theorem own_there {w:World} {B k g n cap:Nat} {E:TypeId} {xs:List Value} (h:w.ownsRow B E k (.slice (some ⟨g,0,none⟩) n cap) n xs) (o m:Nat) (hm:o+m≤xs.length):w.there g o m:=fun j hj=>by
 refine ⟨?_,h.frozenAt _⟩
 rw [h.cellAt (o+j) (by have:=h.1; omega)]
 simp
 omega
theorem opcopy_any (x:Opp) (q:Option Addr) (c:Nat) (w:World) (ha:Pa w x q c) (hl:x.path.length≤5000):Calls Tryz.prog 63 #[.agg (opA x q c)] w (OwnedN w x):=by
 obtain ⟨i0,hi,hz0,hz1,hz2⟩:=info_parts oinfo_st
 have h1:∀ (w:World) (o:Obj),Below w.heap.size w (w.alloc o):=fun w o=>(Below.refl _ _).alloc (Nat.le_refl _) _
 have hb0:=(h1 w (.cells (opA x q c) 55)).trans ((h1 (w.alloc (.cells (opA x q c) 55)) (.cells #[.int .i64 0,.int .i64 0,.int .i64 0,.int .i64 0,.int .i64 0,.string ⟨#[]⟩,.slice none 0 0,.int .i64 0,.int .i64 0,.int .i64 0,.string ⟨#[]⟩,.bool false] 55)).mono (by simp))
 have HB:=Hi hb0
 have HX:=Hi ((OpAt.new w x q c 55).kept (h1 _ (.cells #[.int .i64 0,.int .i64 0,.int .i64 0,.int .i64 0,.int .i64 0,.string ⟨#[]⟩,.slice none 0 0,.int .i64 0,.int .i64 0,.int .i64 0,.string ⟨#[]⟩,.bool false] 55)))
 have HZ:=Hi (show AgAt ((w.alloc (.cells (opA x q c) 55)).alloc (.cells #[.int .i64 0,.int .i64 0,.int .i64 0,.int .i64 0,.int .i64 0,.string ⟨#[]⟩,.slice none 0 0,.int .i64 0,.int .i64 0,.int .i64 0,.string ⟨#[]⟩,.bool false] 55)) (w.heap.size+1) #[.int .i64 0,.int .i64 0,.int .i64 0,.int .i64 0,.int .i64 0,.string ⟨#[]⟩,.slice none 0 0,.int .i64 0,.int .i64 0,.int .i64 0,.string ⟨#[]⟩,.bool false] from by
  have:=AgAt.new (w.alloc (.cells (opA x q c) 55)) #[.int .i64 0,.int .i64 0,.int .i64 0,.int .i64 0,.int .i64 0,.string ⟨#[]⟩,.slice none 0 0,.int .i64 0,.int .i64 0,.int .i64 0,.string ⟨#[]⟩,.bool false] 55
  simpa using this)
 have HP:=Hi (ha.kept hb0)
 have HS:=Hi (show ((w.alloc (.cells (opA x q c) 55)).alloc (.cells #[.int .i64 0,.int .i64 0,.int .i64 0,.int .i64 0,.int .i64 0,.string ⟨#[]⟩,.slice none 0 0,.int .i64 0,.int .i64 0,.int .i64 0,.string ⟨#[]⟩,.bool false] 55)).heap.size=w.heap.size+2 from by simp)
 have HN:=Hi (fun W=>World.ownsRow_nil W (w.heap.size+2) 50 2)
 obtain ⟨x0,x1,x2,x3,x4,x5,x6,x7,x8,x9,x10,x11⟩:=HX.out.cells
 clear ha h1 hb0
 go_enter Tryz.func63,Tryz.ntmps63
 go_wp2_with (at_builtin; refine wpList_append_k rfl _ _ 51 rfl (w.heap.size+2) 50 i0 _ 2 16 Tryz.underlying51 hi hz0 hz1 (by decide) hz2 (by decide) rfl _ 0 [] rfl (HN.out _) _ x.path.length c (stCells x.path) rfl (stCells_length x.path) HP.out.rd HP.out.nil stCells_one (by omega) (by rw [HS.out]; exact Nat.le_refl _) ?_)
 intro p' c' w1 ho hg _
 have hb1:Below (w.heap.size+2) ((w.alloc (.cells (opA x q c) 55)).alloc (.cells #[.int .i64 0,.int .i64 0,.int .i64 0,.int .i64 0,.int .i64 0,.string ⟨#[]⟩,.slice none 0 0,.int .i64 0,.int .i64 0,.int .i64 0,.string ⟨#[]⟩,.bool false] 55)) w1:=by
  have:=(Below.refl (w.heap.size+2) ((w.alloc (.cells (opA x q c) 55)).alloc (.cells #[.int .i64 0,.int .i64 0,.int .i64 0,.int .i64 0,.int .i64 0,.string ⟨#[]⟩,.slice none 0 0,.int .i64 0,.int .i64 0,.int .i64 0,.string ⟨#[]⟩,.bool false] 55))).grown hg (by rw [HS.out]; exact Nat.le_refl _) (fun k hk=>by cases hk)
  exact this
 have HX1:=Hi (HX.out.below hb1 (by omega))
 have HZ1:=Hi (HZ.out.below hb1 (by omega))
 have HB1:=Hi (HB.out.trans (hb1.mono (by omega)))
 have HO:=Hi ho
 have HX2:=Hi (show OpAt (w1.setCell ⟨w.heap.size,6,none⟩ (.slice p' x.path.length c')) w.heap.size x p' c' from HX1.out.setPath x.path p' c')
 have HZ2:=Hi (show AgAt (w1.setCell ⟨w.heap.size,6,none⟩ (.slice p' x.path.length c')) (w.heap.size+1) #[.int .i64 0,.int .i64 0,.int .i64 0,.int .i64 0,.int .i64 0,.string ⟨#[]⟩,.slice none 0 0,.int .i64 0,.int .i64 0,.int .i64 0,.string ⟨#[]⟩,.bool false] from HZ1.out.block (heap_setCell_other _ _ _ _ (by simp)))
 have HB2:=Hi (show Below w.heap.size w (w1.setCell ⟨w.heap.size,6,none⟩ (.slice p' x.path.length c')) from HB1.out.setCell (by simp) _)
 have HO2:=Hi (show (w1.setCell ⟨w.heap.size,6,none⟩ (.slice p' x.path.length c')).ownsRow (w.heap.size+2) 50 2 (.slice p' x.path.length c') x.path.length (stCells x.path) from by
  refine (set_turns _ _ _ _).own HO.out fun g hg e=>?_
  have:=(World.ownsRow.lt HO.out g hg).1
  omega)
 have y6:=HX1.out.cells.2.2.2.2.2.2.1
 have yf:=HX1.out.free 6
 clear ho hg hb1 HP HS HN HX HZ HB x0 x1 x2 x3 x4 x5 x6 x7 x8 x9 x10 x11
 go_wp2_with (first | (refine wpList_load_op otP rfl _ rfl _ rfl x p' c' HX2.out ?_) | (refine wpList_store_ag agO rfl _ _ rfl _ rfl _ HZ2.out rfl rfl rfl (opA_one x p' c') ?_; intro w3 hv3 hko hsz hbn))
 refine bodyPost_ret (results_ag agO _ rfl rfl hv3 rfl) rfl ?_
 obtain ⟨p2,c2,e2,hr2,hl2,-,hn2,hb2⟩:=own_rd HO2.out
 obtain ⟨rfl,rfl⟩:p'=p2∧c'=c2:=by cases e2; exact ⟨rfl,rfl⟩
 refine ⟨p',c',rfl,⟨?_,hn2,hl2⟩,hbn _ _ HB2.out (by omega),fun a ha=>by have:=(hb2 a ha).1; omega⟩
 refine (stored_turns hko hsz hbn).rd hr2 fun a ha e=>?_
 have:=(hb2 a ha).1
 omega
def OCloned (l:List En) (w:World) (e:Ending) (w':World):Prop :=
 ∃ p' c',e=.returned (.slice p' l.length c')∧w'.ownsRow w.heap.size 55 12 (.slice p' l.length c') l.length (enCells l)∧Below w.heap.size w w'
theorem oclone_any (p:Option Addr) (cap:Nat) (l:List En) (w:World) (h:Rd w p (enCells l)) (hpn:p=none→cap=0) (hl:l.length≤5000) :
  Calls Tryz.prog 62 #[.slice p l.length cap] w (OCloned l w):=by
 obtain ⟨i0,hi,hz0,hz1,hz2⟩:=info_parts oinfo_op
 have qT:∀ (w:World) (a:Option Addr) (n c n' c':Nat),(binOp .eql 37 (.slice a n c) (.slice none n' c')).run Tryz.prog w=.ok (.bool a.isNone) w:=fun w a n c n' c'=>Lib.run_eql_slice_nil w _ _ a n c n' c' Tryz.underlying37
 cases p with
 | none =>
  have h0:l=[]:=by
   cases l with
   | nil=>rfl
   | cons a l =>
    obtain ⟨b,o,e,-⟩:=h (by rw [enCells_length]; simp)
    cases e
  subst h0
  have HE:=Hi (show OCloned [] w (.returned (.slice none 0 0)) w from ⟨none,0,rfl,World.ownsRow_nil _ _ _ _,Below.refl _ _⟩)
  clear h hpn
  go_enter Tryz.func62,Tryz.ntmps62
  go_wp2
  go_ret
  exact HE.out
 | some a =>
  have hb:Below w.heap.size w (w.alloc (.cells #[] 55)):=(Below.refl _ _).alloc (Nat.le_refl _) _
  have HR:=Hi (h.below hb)
  have HB:=Hi hb
  have HO:=Hi (World.ownsRow_lit (base:=w.heap.size) (e:=55) (size:=12) w #[] 0 (Nat.le_refl _) (by simp [maxLen]) (by simp))
  clear h hb hpn
  go_enter Tryz.func62,Tryz.ntmps62
  go_wp2_with (at_builtin; refine wpList_append_k rfl _ _ 37 rfl w.heap.size 55 i0 _ 12 128 Tryz.underlying37 hi hz0 hz1 (by decide) hz2 (by decide) rfl _ 0 [] rfl HO.out _ l.length cap (enCells l) rfl (enCells_length l) HR.out (fun e=>by cases e) enCells_one (by omega) (by simp) ?_)
  intro p' c' w1 ho1 hg1 _
  have hbw:=HB.out.grown hg1 (by simp) (fun k hk=>by cases hk; exact Nat.le_refl _)
  have HE:=Hi (show OCloned l w (.returned (.slice p' l.length c')) w1 from ⟨p',c',rfl,by simpa using ho1,hbw⟩)
  clear ho1 hg1 hbw
  go_wp2
  go_ret
  exact HE.out
open Go.RowKit
theorem step_of {P:Program} {w:World} {ops:Array Oper} {o:Oper} {a:Act} {K:Act→World→Prop} {Q:Exit→Act→World→Prop} {E:Prop} (hgd:o.guard=none) (h:Oper.wp P o a w K Q) :
  if Region.wanted o (yielded ops a.tmps)=true then Oper.wp P o a w K Q else E:=by
 have hw:Region.wanted o (yielded ops a.tmps)=true:=by simp [Region.wanted,hgd]
 rw [if_pos hw]
 exact h
theorem wpList_load_en0 {w:World} {t:TypeId} (V:OT t) {ops:Array Oper} {rest:List Oper} {o:Oper} {a:Act} {Q:Exit→Act→World→Prop} (hgd:o.guard=none) (y:Operand) (ho:o.op=.load t y)
  (b i:Nat) (hx:a.eval y=.pointer (some ⟨b,i * 12,none⟩)) (l:List En) (hrd:Rd w (some ⟨b,0,none⟩) (enCells l)) (hi:i<l.length)
  (h:wpList Tryz.prog ops Q rest (a.put o.dst (.agg (opA (enOf l i).x (enOf l i).q (enOf l i).c))) w):wpList Tryz.prog ops Q (o :: rest) a w :=
 wpList_load_en V hgd y ho b 0 i (by rw [Nat.zero_add]; exact hx) l hrd hi h
structure CpI (w0:World) (x:Bat) (p:Option Addr) (c k:Nat) (l:List En) (w:World):Prop where
 at_:BtAt w w0.heap.size x p c
 res:AgAt w (w0.heap.size+1) (btA Bat.zero none 0)
 own:w.ownsRow (w0.heap.size+2) 55 12 (.slice p x.ops.length c) x.ops.length (enCells l)
 map:l.map (·.x)=x.ops
 pa:∀ e,e ∈ l→Pa w e.x e.q e.c
 far:∀ e,e ∈ l→0<e.x.path.length→∀ a,e.q=some a→(a.block<w0.heap.size∨w0.heap.size+2≤a.block)∧(Value.slice p x.ops.length c).ownBlock≠some a.block
 new:∀ i,i<k→i<l.length→0<(enOf l i).x.path.length→∀ a,(enOf l i).q=some a→w0.heap.size≤a.block
 below:Below w0.heap.size w0 w
section
variable {w0 w w':World} {x:Bat} {p:Option Addr} {c k:Nat} {l:List En}
theorem CpI.len (h:CpI w0 x p c k l w):l.length=x.ops.length:=by rw [← h.map,List.length_map]
theorem CpI.kept (h:CpI w0 x p c k l w) (hb:Below w.heap.size w w'):CpI w0 x p c k l w' :=
 ⟨AgAt.kept h.at_ hb,h.res.kept hb,own_belowK h.own hb,h.map,fun e he=>(h.pa e he).kept hb,h.far,h.new,h.below.trans (hb.mono h.below.size)⟩
theorem CpI.step {g:Nat} {q:Option Addr} {cc B:Nat} (h:CpI w0 x (some ⟨g,0,none⟩) c k l w) (hp:Pa w (opOf x.ops k) q cc) (hq:∀ a,q=some a→B≤a.block) (hg:g<B) (hk:k<x.ops.length) :
  CpI w0 x (some ⟨g,0,none⟩) c (k+1) (l.set k ⟨opOf x.ops k,q,cc⟩) (w.setCells g (k * 12) (opA (opOf x.ops k) q cc).toList):=by
 have hst:=own_setCells (opA (opOf x.ops k) q cc).toList w (k * 12) h.own
 have hkl:k<l.length:=by rw [h.len]; exact hk
 have hge:w0.heap.size+2≤g:=(World.ownsRow.lt h.own g rfl).1
 have e:=setL_en l k ⟨opOf x.ops k,q,cc⟩ hkl
 have eo:(opA (opOf x.ops k) q cc).toList=opL (opOf x.ops k) q cc:=rfl
 have hT:Turns (fun j=>j=g) w (w.setCells g (k * 12) (opA (opOf x.ops k) q cc).toList):=(Turns.of_grown hst.2).mono fun j _ hj=>by cases hj; rfl
 have hmem:∀ e,e ∈ l.set k ⟨opOf x.ops k,q,cc⟩→e ∈ l∨e=⟨opOf x.ops k,q,cc⟩:=fun e he=>by
  rcases List.mem_or_eq_of_mem_set he with h1 | h1
  ·exact Or.inl h1
  ·exact Or.inr h1
 have hfar:∀ e,e ∈ l.set k ⟨opOf x.ops k,q,cc⟩→0<e.x.path.length→∀ a,e.q=some a→(a.block<w0.heap.size∨w0.heap.size+2≤a.block)∧(Value.slice (some ⟨g,0,none⟩) x.ops.length c).ownBlock≠some a.block:=fun e he h0 a ha=>by
  rcases hmem e he with h1 | rfl
  ·exact h.far e h1 h0 a ha
  ·have:=hq a ha
   exact ⟨Or.inr (by omega),fun hh=>by simp [Value.ownBlock] at hh; omega⟩
 refine ⟨AgAt.block h.at_ (hst.2.block _ (AgAt.lt h.at_) (by simp; omega)),AgAt.block h.res (hst.2.block _ (AgAt.lt h.res) (by simp; omega)),?_,?_,fun e he=>?_,hfar,?_,?_⟩
 ·rw [← e,← eo]; exact hst.1
 ·rw [List.map_set,h.map]
  apply List.ext_getElem?
  intro i
  by_cases hi:i=k
  ·subst hi; rw [List.getElem?_set_self (by exact hk)]; simp [opOf,hk]
  ·rw [List.getElem?_set_ne (fun e=>hi e.symm)]
 ·have hpa:Pa w e.x e.q e.c:=by
   rcases hmem e he with h1 | rfl
   ·exact h.pa e h1
   ·exact hp
  refine ⟨fun h0=>?_,hpa.nil,hpa.cap⟩
  rw [stCells_length] at h0
  refine hT.rd hpa.rd (fun a ha ea=>?_) (by rw [stCells_length]; exact h0)
  have:=(hfar e he (by omega) a ha).2
  exact this (by rw [← ea]; rfl)
 ·intro i hi hil h0 a ha
  rw [List.length_set] at hil
  by_cases hik:i=k
  ·subst hik
   have:enOf (l.set i ⟨opOf x.ops i,q,cc⟩) i=⟨opOf x.ops i,q,cc⟩:=by simp [enOf,List.getD,hil]
   rw [this] at ha
   have:=hq a ha
   omega
  ·have:enOf (l.set k ⟨opOf x.ops k,q,cc⟩) i=enOf l i:=by simp [enOf,List.getD,Ne.symm hik]
   rw [this] at ha h0
   exact h.new i (by omega) hil h0 a ha
 ·exact h.below.trans (hT.below (fun j _ hj=>by omega) h.below.size)
theorem CpI.done (h:CpI w0 x p c x.ops.length l w) (ht:Turns (fun j=>j=w0.heap.size+1) w w'):BopsN w0.heap.size w' x p c:=by
 obtain ⟨p',c',e,h1,h2,-,h3,h4⟩:=own_rd h.own
 obtain ⟨rfl,rfl⟩:p=p'∧c=c':=by cases e; exact ⟨rfl,rfl⟩
 refine ⟨l,⟨h.map,ht.rd h1 fun a ha ea=>by have:=(h4 a ha).1; omega,fun e he=>⟨fun h0=>?_,(h.pa e he).nil,(h.pa e he).cap⟩,h3,h2⟩,fun _ a ha=>by have:=(h4 a ha).1; omega,fun e he h0 a ha=>?_⟩
 ·rw [stCells_length] at h0
  refine ht.rd (h.pa e he).rd (fun a ha ea=>?_) (by rw [stCells_length]; exact h0)
  have:=(h.far e he (by omega) a ha).1
  omega
 ·obtain ⟨i,hi,rfl⟩:=List.mem_iff_getElem.1 he
  have e1:enOf l i=l[i]:=by simp [enOf,hi]
  exact h.new i (by rw [← h.len]; exact hi) hi (by rw [e1]; exact h0) a (by rw [e1]; exact ha)
end
def UnfB (w:World) (e:Be):Prop:=0<e.x.ops.length→∀ a,e.p=some a→∀ i,w.frozen? ⟨a.block,i,none⟩=false
theorem UnfB.turns {F G:Nat→Prop} {w w':World} {e:Be} (h:UnfB w e) (hb:BopsF F w e.x e.p e.c) (ht:Turns G w w') (hd:∀ k,F k→¬ G k):UnfB w' e:=fun h0 a ha i=>by
 obtain ⟨l,h1,h2,-⟩:=hb
 obtain ⟨b,o,e',hlt⟩:=h1.rd.addr (by rw [enCells_length,h1.len]; omega)
 have hF:=h2 h0 a ha
 have hfz:=h h0 a ha i
 rw [ha] at e'; cases e'
 rw [ht.frozen (p:=⟨b,i,none⟩) hlt (hd _ hF)]
 exact hfz
theorem CpI.unf {w0 w w':World} {x:Bat} {p:Option Addr} {c k:Nat} {l:List En} (h:CpI w0 x p c k l w) (ht:Turns (fun j=>j=w0.heap.size+1) w w'):UnfB w' ⟨x,p,c⟩:=fun _ a ha i=>by
 obtain ⟨p',c',e,-,-,-,-,h4⟩:=own_rd h.own
 obtain ⟨rfl,rfl⟩:p=p'∧c=c':=by cases e; exact ⟨rfl,rfl⟩
 have ho:=h.own
 have h5:=h4 a ha
 dsimp only at ha
 rw [ha,h5.2.2.2] at ho
 rw [ht.frozen (p:=⟨a.block,i,none⟩) h5.2.1 (by have:=h5.1; dsimp only; omega)]
 exact ho.frozenAt i
theorem bcopy_unf (x:Bat) (p:Option Addr) (c:Nat) (w:World) (h:Bops w x p c) (hl:x.ops.length≤5000) (hp:∀ y,y ∈ x.ops→y.path.length≤5000):Calls Tryz.prog 29 #[.agg (btA x p c)] w
  fun e w'=>∃ p' c',e=.returned (.agg (btA x p' c'))∧BopsN w.heap.size w' x p' c'∧Below w.heap.size w w'∧UnfB w' ⟨x,p',c'⟩:=by
 obtain ⟨l0,h⟩:=h
 have hb1:=(Below.refl w.heap.size w).alloc (Nat.le_refl _) (.cells (btA x p c) 39)
 have hb2:=(Below.refl (w.alloc (.cells (btA x p c) 39)).heap.size _).alloc (Nat.le_refl _) (.cells #[.int .i64 0,.int .i64 0,.int .i64 0,.slice none 0 0] 39)
 have HX:=Hi (show BtAt ((w.alloc (.cells (btA x p c) 39)).alloc (.cells #[.int .i64 0,.int .i64 0,.int .i64 0,.slice none 0 0] 39)) w.heap.size x p c from (AgAt.new w _ _).kept hb2)
 have HZ:=Hi (show AgAt ((w.alloc (.cells (btA x p c) 39)).alloc (.cells #[.int .i64 0,.int .i64 0,.int .i64 0,.slice none 0 0] 39)) (w.heap.size+1) (btA Bat.zero none 0) from by
  have:=AgAt.new (w.alloc (.cells (btA x p c) 39)) (btA Bat.zero none 0) 39
  rw [show (w.alloc (.cells (btA x p c) 39)).heap.size=w.heap.size+1 from by simp] at this
  exact this)
 have HB:=Hi (hb1.trans (hb2.mono (by simp)))
 have HS:=Hi (show ((w.alloc (.cells (btA x p c) 39)).alloc (.cells #[.int .i64 0,.int .i64 0,.int .i64 0,.slice none 0 0] 39)).heap.size=w.heap.size+2 from by simp)
 have HPA:=Hi (show ∀ e,e ∈ l0→Pa w e.x e.q e.c from h.pa)
 have HMP:=Hi h.map
 have HLL:=Hi h.len
 have HC:=Hi (oclone_any p c l0 _ (h.rd.below HB.out) h.nil (by rw [h.len]; exact hl))
 rw [h.len] at HC
 have HC:=Hi (HC.out.mono (R':=fun e w'=>∃ p' c',e=.returned (.slice p' x.ops.length c')∧w'.ownsRow (w.heap.size+2) 55 12 (.slice p' x.ops.length c') x.ops.length (enCells l0)∧Below ((w.alloc (.cells (btA x p c) 39)).alloc (.cells #[.int .i64 0,.int .i64 0,.int .i64 0,.slice none 0 0] 39)).heap.size ((w.alloc (.cells (btA x p c) 39)).alloc (.cells #[.int .i64 0,.int .i64 0,.int .i64 0,.slice none 0 0] 39)) w') (by
  rintro e w' ⟨p',c',h1,h2,h3⟩
  rw [HLL.out] at h1 h2
  rw [HS.out] at h2
  exact ⟨p',c',h1,h2,h3⟩))
 obtain ⟨x0,x1,x2,x3⟩:=BtAt.cells HX.out
 clear h hb1 hb2
 go_enter Tryz.func29,Tryz.ntmps29
 go_wp2_with fail
 refine HC.out.mono ?_
 rintro e w1 ⟨p1,c1,rfl,ho1,hb1⟩
 have HX1:=Hi (AgAt.kept HX.out hb1)
 have y3:=(BtAt.cells HX1.out).2.2.2
 have yf:=AgAt.free HX1.out 3
 have T:=Hi (show CpI w x p1 c1 0 l0 (w1.setCell ⟨w.heap.size,3,none⟩ (.slice p1 x.ops.length c1)) from by
  have hT:=set_turns w.heap.size w1 3 (.slice p1 x.ops.length c1)
  have hlt:=World.ownsRow.lt ho1
  have hbw:Below w.heap.size w (w1.setCell ⟨w.heap.size,3,none⟩ (.slice p1 x.ops.length c1)):=(HB.out.trans (hb1.mono HB.out.size)).setCell (by simp) _
  refine ⟨?_,(AgAt.kept HZ.out hb1).block (hT.block _ (AgAt.lt (AgAt.kept HZ.out hb1)) (by omega)),hT.own ho1 fun g hg e=>by have:=(hlt g hg).1; omega,HMP.out,fun e he=>(HPA.out e he).kept hbw,fun e he h0 a ha=>?_,fun i hi=>absurd hi (Nat.not_lt_zero _),hbw⟩
  ·have:=AgAt.put HX1.out 3 (.slice p1 x.ops.length c1)
   have e:(btA x p c).setIfInBounds 3 (.slice p1 x.ops.length c1)=btA x p1 c1:=by unfold btA; simp
   rw [e] at this
   exact this
  ·obtain ⟨b,o,e',hb⟩:=(HPA.out e he).rd.addr (by rw [stCells_length]; omega)
   rw [ha] at e'; cases e'
   exact ⟨Or.inl hb,fun hh=>by have:=(hlt b hh).1; omega⟩)
 have z3:=(BtAt.cells T.out.at_).2.2.2
 clear ho1 hb1 HX HZ HPA HMP HC HB x0 x1 x2 x3
 go_wp2
 generalize w1.setCell ⟨w.heap.size,3,none⟩ (.slice p1 x.ops.length c1)=w2 at *
 clear y3 yf HX1
 go_loopw [12] (fun i wr=>∃ (k:Nat) (l:List En),k≤x.ops.length∧i=.int .i64 (k:Int)∧CpI w x p1 c1 k l wr) (fun i _=>x.ops.length - (intOf i).toNat)
 case atStart=>exact ⟨0,l0,Nat.zero_le _,rfl,T.out⟩
 case round =>
  clear T z3 HLL HS
  obtain ⟨k,l,hk,rfl,ht⟩:=hrel
  have T:=Hi ht
  clear ht
  by_cases hlt:k<x.ops.length
  ·have hd0:decide ((k:Int)<(x.ops.length:Int))=true:=decide_eq_true (by omega)
   obtain ⟨p2,c2,e2,hr2,-,-,-,hg2⟩:=own_rd T.out.own
   obtain ⟨rfl,rfl⟩:p1=p2∧c1=c2:=by cases e2; exact ⟨rfl,rfl⟩
   obtain ⟨g,o,rfl,hgl⟩:=hr2.addr (by rw [enCells_length,T.out.len]; omega)
   have ho:=(hg2 _ rfl).2.2.2
   simp only [Addr.mk.injEq,and_true,true_and] at ho
   subst ho
   have HGL:=Hi (And.intro hgl (World.ownsRow.lt T.out.own g rfl).1)
   have HRD:=Hi hr2
   have HKL:=Hi (show k<l.length by rw [T.out.len]; exact hlt)
   have HXK:=Hi (enOf_x T.out.map k)
   have HPK:=Hi (T.out.pa _ (enOf_mem HKL.out))
   have HPL:=Hi (hp _ (opOf_mem hlt))
   rw [HXK.out] at HPK
   have hkll:=HKL.out
   clear e2 hr2 hg2 hgl
   go_upto_region 5 with (first | (refine wpList_load_en0 otP rfl _ rfl g k rfl l HRD.out HKL.out ?_; rw [HXK.out]) | (refine wpList_store_newag agO rfl _ _ rfl rfl _ rfl rfl rfl (opA_one _ _ _) ?_; intro w4 hv4 hb4))
   replace T:=Hi (T.out.kept (hb4.trans (Below.drew (Below.refl _ _))))
   have HPK:=Hi (HPK.out.kept (hb4.trans (Below.drew (Below.refl _ _))))
   have HGL:=Hi (show w.heap.size+2≤g∧g<wr.heap.size∧wr.heap.size<w4.heap.size from ⟨HGL.out.2,HGL.out.1,AgAt.lt hv4⟩)
   have hS0:BtAt w4.drew w.heap.size x (some ⟨g,0,none⟩) c1∧AgAt w4.drew wr.heap.size (opA (opOf x.ops k) (enOf l k).q (enOf l k).c):=⟨T.out.at_,hv4⟩
   clear hb4 hv4
   refine wp_region_held_drew (S:=fun W=>BtAt W w.heap.size x (some ⟨g,0,none⟩) c1∧AgAt W wr.heap.size (opA (opOf x.ops k) (enOf l k).q (enOf l k).c)) (by kernel_rfl) hS0 (fun hS=>?_)
   clear hS0
   have HSZ:=Hi (show w4.heap.size=w4.drew.heap.size from rfl)
   generalize w4.drew=wd at *
   rw [HSZ.out] at HGL
   have HOC:=Hi (opcopy_any (opOf x.ops k) (enOf l k).q (enOf l k).c wd HPK.out HPL.out)
   refine tX 0 rfl hS ?_
   refine tK 1 (v:=?_) rfl ?_ hS ?_
   rotate_left
   ·intro W hSW
    obtain ⟨x0,x1,x2,x3⟩:=BtAt.cells hSW.1
    go_simp
    all_goals with_reducible rfl
   refine tX 2 rfl hS ?_
   go_simp
   refine tK 3 (v:=.agg (opA (opOf x.ops k) (enOf l k).q (enOf l k).c)) rfl (fun W hSW=>exec_load_ag agO rfl rfl rfl hSW.2) hS ?_
   go_simp
   refine rD 4 rfl (fun K hK=>?_)
   go_simp
   go_wp2_with ((go_at_call 63; refine HOC.out.mono ?_; rintro e w5 ⟨q2,c2,rfl,hp2,hb2,hn2⟩))
   replace T:=Hi (T.out.kept hb2)
   have HP2:=Hi hp2
   have HN2:=Hi hn2
   have HZ5:=Hi hb2.size
   refine hK.out _ _ ⟨AgAt.kept hS.1 hb2,AgAt.kept hS.2 hb2⟩ (fun hS=>?_)
   clear hK K hb2 hp2 hn2
   refine tX 5 rfl hS ?_
   go_simp
   refine rD 6 rfl (fun K hK=>?_)
   refine step_of rfl ?_
   refine wp_store_mid _ _ _ rfl g (k * 12) (opA (opOf x.ops k) q2 c2) rfl rfl (by rw [opA_size]; exact own_there T.out.own _ _ (by rw [enCells_length]; omega)) agO.size (opA_one _ _ _) ?_
   have hst:=own_setCells (opA (opOf x.ops k) q2 c2).toList w5 (k * 12) T.out.own
   have HT6:=Hi (T.out.step HP2.out HN2.out (by have:=HGL.out; omega) (by omega))
   refine hK.out _ _ ⟨AgAt.block hS.1 (hst.2.block _ (AgAt.lt hS.1) (by have:=HGL.out; simp; omega)),AgAt.block hS.2 (hst.2.block _ (AgAt.lt hS.2) (by have:=HGL.out; simp; omega))⟩ (fun hS=>?_)
   clear hK K hst
   refine wpAnyH_done (by kernel_rfl) ?_ _
   go_simp
   generalize w5.setCells g (k * 12) (opA (opOf x.ops k) q2 c2).toList=w6 at *
   clear hS
   go_wp2
   go_roundw
   case rel=>exact ⟨k+1,_,by omega,by go_num,HT6.out⟩
   case measure=>simp [intOf]; omega
  ·obtain rfl:k=x.ops.length:=by omega
   have hd0:decide ((x.ops.length:Int)<(x.ops.length:Int))=false:=decide_eq_false (by omega)
   go_wp2_with (first | (refine wpList_load_ag btP (by kernel_rfl) _ rfl _ rfl (A:=btA _ p1 c1) rfl T.out.at_ ?_) | (refine wpList_store_ag btP rfl _ _ rfl _ rfl _ T.out.res rfl rfl rfl (btA_one _ _ _) ?_; intro wy hvy hko hsz hbn))
   refine bodyPost_ret (results_ag btP _ rfl rfl hvy rfl) rfl ?_
   exact ⟨p1,c1,rfl,T.out.done (stored_turns hko hsz hbn),hbn _ _ T.out.below (by omega),T.out.unf (stored_turns hko hsz hbn)⟩
theorem bcopy_any (x:Bat) (p:Option Addr) (c:Nat) (w:World) (h:Bops w x p c) (hl:x.ops.length≤5000) (hp:∀ y,y ∈ x.ops→y.path.length≤5000):Calls Tryz.prog 29 #[.agg (btA x p c)] w
  fun e w'=>∃ p' c',e=.returned (.agg (btA x p' c'))∧BopsN w.heap.size w' x p' c'∧Below w.heap.size w w' :=
 (bcopy_unf x p c w h hl hp).mono fun _ _ ⟨p',c',h1,h2,h3,_⟩=>⟨p',c',h1,h2,h3⟩
open Go.RowKit
theorem oinfo_bt:(Tryz.prog.info? 39).map (fun i=>(i.zero,i.size,i.bytes))=some (some (.agg (btA Bat.zero none 0)),4,48):=by kernel_rfl
theorem run_build_bt (w:World) (y:Bat) (q:Option Addr) (c:Nat):(Instr.buildSlice 33 1 #[(0,.agg (btA y q c))]).run Tryz.prog w=.ok (.slice (some ⟨w.heap.size,0,none⟩) 1 1) (w.alloc (.cells (btA y q c) 39)):=by kernel_rfl
theorem wp_build_bt {w:World} {o:Oper} {a:Act} {K:Act→World→Prop} {Q:Exit→Act→World→Prop} (x:Operand) (ho:o.op=.buildSlice 33 1 #[(0,x)]) (y:Bat) (q:Option Addr) (c:Nat) (hx:a.eval x=.agg (btA y q c))
  (h:K (a.put o.dst (.slice (some ⟨w.heap.size,0,none⟩) 1 1)) (w.alloc (.cells (btA y q c) 39))):Oper.wp Tryz.prog o a w K Q:=by
 unfold Oper.wp execOp
 simp only [ho,Sem.run_bind,Sem.run_pure,Result.andThen_ok,List.map_toArray,List.map_cons,List.map_nil,hx,run_build_bt]
 exact h
theorem wpList_build_bt {w:World} {ops:Array Oper} {rest:List Oper} {o:Oper} {a:Act} {Q:Exit→Act→World→Prop} (hgd:o.guard=none) (x:Operand) (ho:o.op=.buildSlice 33 1 #[(0,x)]) (y:Bat) (q:Option Addr) (c:Nat) (hx:a.eval x=.agg (btA y q c))
  (h:wpList Tryz.prog ops Q rest (a.put o.dst (.slice (some ⟨w.heap.size,0,none⟩) 1 1)) (w.alloc (.cells (btA y q c) 39))):wpList Tryz.prog ops Q (o :: rest) a w :=
 wpList_plain hgd fun _ hK=>wp_build_bt x ho y q c hx (hK _ _ h)
theorem rd_bt_one (w:World) (e:Be) (E:TypeId):Rd (w.alloc (.cells (btA e.x e.p e.c) E)) (some ⟨w.heap.size,0,none⟩) (beL e):=fun _=>⟨_,0,rfl,fun i u hu=>by
 rw [Nat.zero_add,World.cell?_alloc_at _ _ _ _ rfl,← hu,← beL_arr]
 simp⟩
structure BRow (B:Nat) (w:World) (p:Option Addr) (c:Nat) (l:List Be):Prop where
 own:w.ownsRow B 39 4 (.slice p l.length c) l.length (beCells l)
 ops:∀ e,e ∈ l→BopsF (fun k=>B≤k∧(Value.slice p l.length c).ownBlock≠some k) w e.x e.p e.c
section
variable {B:Nat} {w w':World} {p p':Option Addr} {c c':Nat} {l:List Be}
theorem BRow.nil (B:Nat) (w:World):BRow B w none 0 []:=⟨World.ownsRow_nil _ _ _ _,fun _ h=>(by cases h)⟩
theorem BRow.kept (h:BRow B w p c l) (hb:Below w.heap.size w w'):BRow B w' p c l:=⟨own_belowK h.own hb,fun e he=>(h.ops e he).below hb⟩
theorem BRow.turns {G:Nat→Prop} (h:BRow B w p c l) (ht:Turns G w w') (hG:∀ k,G k→k<B):BRow B w' p c l :=
 ⟨ht.own h.own fun g hg hh=>by have:=(World.ownsRow.lt h.own g hg).1; have:=hG g hh; omega,fun e he=>(h.ops e he).turns ht fun k hk hh=>by have:=hG k hh; omega⟩
theorem BRow.rd (h:BRow B w p c l):Rd w p (beCells l)∧l.length≤c∧(p=none→c=0):=by
 obtain ⟨p2,c2,e,h1,h2,-,h3,-⟩:=own_rd h.own
 obtain ⟨rfl,rfl⟩:p=p2∧c=c2:=by cases e; exact ⟨rfl,rfl⟩
 exact ⟨h1,h2,h3⟩
theorem BRow.push {e:Be} (h:BRow B w p c l) (he:BopsF (fun k=>B≤k∧(Value.slice p l.length c).ownBlock≠some k) w e.x e.p e.c)
  (ho:w'.ownsRow B 39 4 (.slice p' (l.length+1) c') (l.length+1) (beCells l ++ beL e)) (hg:w.grownBy w' (Value.slice p l.length c).ownBlock)
  (hw:∀ g,(Value.slice p' (l.length+1) c').ownBlock=some g→(Value.slice p l.length c).ownBlock=some g∨w.heap.size≤g):BRow B w' p' c' (l ++ [e]):=by
 have hl:(l ++ [e]).length=l.length+1:=by simp
 have hk:∀ b:Be,BopsF (fun k=>B≤k∧(Value.slice p l.length c).ownBlock≠some k) w b.x b.p b.c→BopsF (fun k=>B≤k∧(Value.slice p' (l.length+1) c').ownBlock≠some k) w' b.x b.p b.c:=fun b hb=>by
  have h1:=hb.mono (G:=fun k=>B≤k∧(Value.slice p l.length c).ownBlock≠some k∧(Value.slice p' (l.length+1) c').ownBlock≠some k) fun k hk ⟨h1,h2⟩=>⟨h1,h2,fun hh=>by
   rcases hw k hh with h3 | h3
   ·exact h2 h3
   ·omega⟩
  have h2:=h1.turns (Turns.of_grown hg) fun k hk hh=>hk.2.1 hh
  exact h2.mono fun k _ hk=>⟨hk.1,hk.2.2⟩
 refine ⟨?_,fun b hb=>?_⟩
 ·rw [hl,beCells_append,beCells_sing]; exact ho
 ·rw [hl]
  rcases List.mem_append.1 hb with hb | hb
  ·exact hk b (h.ops b hb)
  ·obtain rfl:b=e:=by simpa using hb
   exact hk b he
end
def CpSz (x:Bat):Prop:=x.ops.length≤5000∧∀ y,y ∈ x.ops→y.path.length≤5000
def Copied (l:List Be) (w:World) (e:Ending) (w':World):Prop :=
 ∃ p' c' l',e=.returned (.slice p' l.length c')∧l'.map (·.x)=l.map (·.x)∧BRow w.heap.size w' p' c' l'∧Below w.heap.size w w'
def URow (B:Nat) (w:World) (p:Option Addr) (c:Nat) (l:List Be):Prop:=BRow B w p c l∧∀ e,e ∈ l→UnfB w e
theorem URow.nil (B:Nat) (w:World):URow B w none 0 []:=⟨BRow.nil _ _,fun _ h=>(by cases h)⟩
def CopiedU (l:List Be) (w:World) (e:Ending) (w':World):Prop :=
 ∃ p' c' l',e=.returned (.slice p' l.length c')∧l'.map (·.x)=l.map (·.x)∧URow w.heap.size w' p' c' l'∧Below w.heap.size w w'
theorem copies_unf (p:Option Addr) (c:Nat) (l:List Be) (w:World) (h:Rd w p (beCells l)) (ho:∀ e,e ∈ l→Bops w e.x e.p e.c) (hs:∀ e,e ∈ l→CpSz e.x) (hl:l.length≤5000):Calls Tryz.prog 28 #[.slice p l.length c] w (CopiedU l w):=by
 obtain ⟨i0,hi,hz0,hz1,hz2⟩:=info_parts oinfo_bt
 have HR:=Hi (fun W (hW:Below w.heap.size w W)=>h.below hW)
 have HCC:=Hi (fun (k:Nat) (hk:k<l.length) W (hW:Below w.heap.size w W)=>bcopy_unf (beOf l k).x (beOf l k).p (beOf l k).c W ((ho _ (beOf_mem hk)).kept hW) (hs _ (beOf_mem hk)).1 (hs _ (beOf_mem hk)).2)
 clear h ho hs
 go_enter Tryz.func28,Tryz.ntmps28
 go_wp2
 go_loopw [2,7] (fun v i wr=>∃ (k:Nat) (p':Option Addr) (c':Nat) (l':List Be),k≤l.length∧i=.int .i64 (k:Int)∧v=.slice p' k c'∧l'.map (·.x)=(l.take k).map (·.x)∧URow w.heap.size wr p' c' l'∧Below w.heap.size w wr) (fun _ i _=>l.length - (intOf i).toNat)
 case atStart=>exact ⟨0,none,0,[],Nat.zero_le _,rfl,rfl,rfl,URow.nil _ _,Below.refl _ _⟩
 case round =>
  obtain ⟨k,p',c',l',hk,rfl,rfl,hm,⟨hrow,huf⟩,hbw⟩:=hrel
  have HUF:=Hi huf
  clear huf
  have HLK:=Hi (show l'.length=k from by have:=congrArg List.length hm; simp only [List.length_map,List.length_take] at this; omega)
  have HM:=Hi hm
  have HROW:=Hi hrow
  have HBW:=Hi hbw
  clear hm hrow hbw
  by_cases hlt:k<l.length
  ·have hd0:decide ((k:Int)<(l.length:Int))=true:=decide_eq_true (by omega)
   obtain ⟨b,o,rfl,hb⟩:=(HR.out _ HBW.out).addr (by rw [beCells_length]; omega)
   have HRD:=Hi (HR.out _ HBW.out)
   have HC:=Hi (HCC.out k hlt)
   have HTK:=Hi (show (l.take (k+1)).map (·.x)=(l.take k).map (·.x) ++ [(beOf l k).x] from by
    rw [List.take_succ_eq_append_getElem hlt,List.map_append]
    simp [beOf,hlt])
   go_wp2_with (first | (refine wpList_load_be btP rfl _ rfl b o k rfl l HRD.out hlt ?_) | (refine wpList_store_newag btP rfl _ _ rfl rfl _ rfl rfl rfl (btA_one _ _ _) ?_; intro w4 hv4 hb4) | (refine wpList_load_ag btP rfl _ rfl _ rfl rfl hv4 ?_))
   have HB4:=Hi (HBW.out.trans (hb4.mono HBW.out.size))
   have HROW4:=Hi (HROW.out.kept hb4)
   have HUF4:=Hi (fun e he=>(HUF.out e he).turns (HROW.out.ops e he) (Turns.of_below hb4) (G:=fun _=>False) fun _ _ h=>h)
   clear hb4 hv4
   refine (HC.out w4 HB4.out).mono ?_
   rintro e w5 ⟨p5,c5,rfl,hp5,hb5,hu5⟩
   have hb6:=(Below.refl w5.heap.size w5).alloc (Nat.le_refl _) (.cells (btA (beOf l k).x p5 c5) 39)
   have HROW6:=Hi ((HROW4.out.kept hb5).kept hb6)
   have HUF6:=Hi (fun e he=>((HUF4.out e he).turns (HROW4.out.ops e he) (Turns.of_below hb5) (G:=fun _=>False) fun _ _ h=>h).turns ((HROW4.out.kept hb5).ops e he) (Turns.of_below hb6) (G:=fun _=>False) fun _ _ h=>h)
   have HU6:=Hi (UnfB.turns (G:=fun _=>False) hu5 (BopsF.ofN hp5) (Turns.of_below hb6) fun _ _ h=>h)
   have HB5:=Hi (HB4.out.trans (hb5.mono HB4.out.size))
   have HB6:=Hi (HB5.out.trans (hb6.mono HB5.out.size))
   have HP6:=Hi (show BopsF (fun j=>w.heap.size≤j∧(Value.slice p' l'.length c').ownBlock≠some j) (w5.alloc (.cells (btA (beOf l k).x p5 c5) 39)) (beOf l k).x p5 c5 from
    ((BopsF.ofN hp5).below hb6).mono fun j _ hj=>⟨Nat.le_trans HB4.out.size hj,fun hh=>by have:=(World.ownsRow.lt HROW4.out.own j hh).2; omega⟩)
   have HRW:=Hi (rd_bt_one w5 ⟨(beOf l k).x,p5,c5⟩ 39)
   have HSZ:=Hi (show w.heap.size≤(w5.alloc (.cells (btA (beOf l k).x p5 c5) 39)).heap.size from HB6.out.size)
   rw [HLK.out] at HP6
   have HOW:=Hi HROW6.out.own
   rw [HLK.out] at HOW
   clear hp5 hb5 hb6 hu5
   generalize beOf l k=be at *
   go_wp2_with (first | (refine wpList_build_bt rfl _ rfl be.x p5 c5 rfl ?_) | (at_builtin; refine wpList_append_k rfl _ _ 33 rfl w.heap.size 39 i0 _ 4 48 Tryz.underlying33 hi hz0 hz1 (by decide) hz2 (by decide) rfl _ k (beCells l') rfl HOW.out _ 1 1 (beL ⟨be.x,p5,c5⟩) rfl rfl HRW.out (fun h=>by cases h) (beL_one _) (by omega) HSZ.out ?_; intro p7 c7 w7 ho7 hg7 hw7))
   have HE:=Hi (show BRow w.heap.size w7 p7 c7 (l' ++ [⟨be.x,p5,c5⟩]) from by
    have hk:=HLK.out
    have h6:=HROW6.out
    have hpp:=HP6.out
    rw [← hk] at ho7 hg7 hw7 hpp
    exact h6.push hpp ho7 hg7 hw7)
   have HUF7:=Hi (show ∀ e,e ∈ l' ++ [⟨be.x,p5,c5⟩]→UnfB w7 e from fun e he=>by
    have h6:=HROW6.out
    have hpp:=HP6.out
    have hgg:=hg7
    rw [← HLK.out] at hgg hpp
    rcases List.mem_append.1 he with he | he
    ·exact (HUF6.out e he).turns (h6.ops e he) (Turns.of_grown hgg) fun k hk hh=>hk.2 hh
    ·obtain rfl:e=⟨be.x,p5,c5⟩:=by simpa using he
     exact UnfB.turns HU6.out hpp (Turns.of_grown hgg) fun k hk hh=>hk.2 hh)
   have HB7:=Hi (show Below w.heap.size w w7 from HB6.out.trans ((Turns.of_grown hg7).below (fun j _ hj=>by
    exact (World.ownsRow.lt HOW.out j hj).1) HSZ.out))
   clear ho7 hg7 hw7
   go_wp2
   go_roundw
   case rel=>exact ⟨k+1,_,_,_,by omega,by go_num,rfl,by rw [HTK.out,List.map_append,HM.out]; rfl,⟨HE.out,HUF7.out⟩,HB7.out⟩
   case measure=>simp [intOf]; omega
  ·obtain rfl:k=l.length:=by omega
   have hd0:decide ((l.length:Int)<(l.length:Int))=false:=decide_eq_false (by omega)
   have HE:=Hi (show CopiedU l w (.returned (.slice p' l.length c')) wr from ⟨p',c',l',rfl,by rw [HM.out,List.take_length],⟨HROW.out,HUF.out⟩,HBW.out⟩)
   go_wp2
   go_ret
   exact HE.out
theorem copies_any (p:Option Addr) (c:Nat) (l:List Be) (w:World) (h:Rd w p (beCells l)) (ho:∀ e,e ∈ l→Bops w e.x e.p e.c) (hs:∀ e,e ∈ l→CpSz e.x) (hl:l.length≤5000):Calls Tryz.prog 28 #[.slice p l.length c] w (Copied l w) :=
 (copies_unf p c l w h ho hs hl).mono fun _ _ ⟨p',c',l',h1,h2,h3,h4⟩=>⟨p',c',l',h1,h2,h3.1,h4⟩
open Go.RowKit
structure Lg where
 row:Nat→List Bat
 wait:List Bat
def Lg.zero:Lg:=⟨fun _=>[],[]⟩
def vecL9 (L:Lg):Nat→Int:=fun r=>((L.row r).length:Int)
def totL (L:Lg):Int:=totalF (vecL9 L)
def lastR (L:Lg) (r:Nat):Qm.St:=match (L.row r).getLast? with | none=>(0,0) | some x=>endT x
def fitsL (L:Lg) (x:Bat):Bool:=decide ((lastR L x.r.toNat).1<x.t)
def enterL (L:Lg) (x:Bat):Lg:={ L with row:=fun k=>if k=x.r.toNat then L.row k ++ [x] else L.row k }
def dropL (L:Lg) (r s:Int):Lg:={ L with wait:=L.wait.filter fun a=>!atPl r s a }
def nextS (L:Lg) (r:Nat):Int:=((L.row r).length:Int)+1
def followL:Nat→Lg→Nat→Lg
 | 0,L,_=>L
 | n+1,L,r=>if 512≤totL L then L else
  match L.wait.find? (atPl (r:Int) (nextS L r)) with
  | none=>L
  | some x=>if fitsL (dropL L (r:Int) (nextS L r)) x=true then followL n (enterL (dropL L (r:Int) (nextS L r)) x) r else dropL L (r:Int) (nextS L r)
def addL (L:Lg) (x:Bat):Lg × List Bat × Int :=
 if rightT x=false then (L,[],1)
 else if (L.wait.any (atPl x.r x.s))=true∨x.s<nextS L x.r.toNat then (L,[],4)
 else if x.s≠nextS L x.r.toNat then (if 64≤L.wait.length then (L,[],7) else ({ L with wait:=L.wait ++ [x] },[],33))
 else if 512≤totL L then (L,[],7)
 else if fitsL L x=false then (L,[],21)
 else (followL (L.wait.length+1) (enterL L x) x.r.toNat,((followL (L.wait.length+1) (enterL L x) x.r.toNat).row x.r.toNat).drop (x.s.toNat - 1),0)
structure OkB (x:Bat):Prop where
 right:rightT x=true
 szs:Szs x.ops
 cp:CpSz x
structure LgOk (L:Lg):Prop where
 right:∀ r,r<16→∀ x,x ∈ L.row r→OkB x
 wright:∀ x,x ∈ L.wait→OkB x
 tot:sumTo (vecL9 L) 16≤512
 wlen:L.wait.length≤64
theorem sumTo_mono {a:Nat→Int} (h:∀ i,0≤a i):∀ {j k:Nat},j≤k→sumTo a j≤sumTo a k:=by
 intro j k hjk
 induction hjk with
 | refl=>exact Int.le_refl _
 | @step m _ ih=>have h1:=h m; simp only [sumTo]; omega
theorem sumTo_ge {a:Nat→Int} (h:∀ i,0≤a i) {j k:Nat} (hj:j<k):a j≤sumTo a k:=by
 have h1:=sumTo_mono h (show j+1≤k from hj)
 have h2:=sumTo_mono h (Nat.zero_le j)
 simp only [sumTo] at h1 h2
 omega
theorem LgOk.len {L:Lg} (h:LgOk L) {r:Nat} (hr:r<16):(L.row r).length≤512:=by
 have:=sumTo_ge (a:=vecL9 L) (fun i=>by simp [vecL9]) hr
 have h2:=h.tot
 simp only [vecL9] at this
 omega
theorem LgOk.vr {L:Lg} (h:LgOk L):vRight (vecL9 L)=true:=vRight_iff.2 fun i hi=>⟨by simp [vecL9],by have:=h.len hi; simp only [vecL9]; omega⟩
theorem LgOk.totL {L:Lg} (h:LgOk L):totL L=sumTo (vecL9 L) 16:=by unfold Go.Proofs.YtfgnmnkihbgjnaaGreat.totL totalF; rw [if_pos h.vr]
theorem LgOk.zero:LgOk Lg.zero:=⟨fun _ _ _ h=>(by cases h),fun _ h=>(by cases h),by decide,by decide⟩
theorem sumTo_enter (a:Nat→Int) (j:Nat):∀ k,sumTo (fun i=>if i=j then a i+1 else a i) k=sumTo a k+(if j<k then 1 else 0)
 | 0=>by simp [sumTo]
 | k+1=>by
  simp only [sumTo,sumTo_enter a j k]
  by_cases h1:k=j
  ·subst h1; simp; omega
  ·by_cases h2:j<k
   ·simp [h1,h2,show j<k+1 from by omega]; omega
   ·simp [h1,h2,show ¬ j<k+1 from by omega]
theorem vecL9_enter (L:Lg) (x:Bat):vecL9 (enterL L x)=fun i=>if i=x.r.toNat then vecL9 L i+1 else vecL9 L i:=by
 funext i
 unfold vecL9 enterL
 dsimp only
 split <;> simp
theorem right_r {x:Bat} (h:rightT x=true):x.r.toNat<16∧((x.r.toNat:Nat):Int)=x.r:=by
 obtain ⟨h1,-⟩:=rightT_iff.1 h
 omega
theorem LgOk.enter {L:Lg} (h:LgOk L) {x:Bat} (hx:OkB x) (ht:¬ 512≤Go.Proofs.YtfgnmnkihbgjnaaGreat.totL L):LgOk (enterL L x):=by
 refine ⟨fun r hr y hy=>?_,h.wright,?_,h.wlen⟩
 ·unfold enterL at hy
  dsimp only at hy
  split at hy
  ·rcases List.mem_append.1 hy with hy | hy
   ·exact h.right r hr y hy
   ·obtain rfl:y=x:=by simpa using hy
    exact hx
  ·exact h.right r hr y hy
 ·rw [vecL9_enter,sumTo_enter]
  rw [h.totL] at ht
  split <;> omega
theorem LgOk.drop {L:Lg} (h:LgOk L) (r s:Int):LgOk (dropL L r s) :=
 ⟨h.right,fun x hx=>h.wright x (List.mem_filter.1 hx).1,h.tot,Nat.le_trans (List.length_filter_le _ _) h.wlen⟩
end Go.Proofs.YtfgnmnkihbgjnaaGreat

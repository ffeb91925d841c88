/-
  AN OP MORE IN A GRAPH's ROW: memory; what Insert answers, plainly.
  No conditions but sizes.
  A GRAPH's LOOKS: Count, Done.
  No conditions but sizes.
  MANY OPS INSERTED one after another, plainly: what the row holds, and that it does not hang on their order.
  No conditions.
-/
import Derived.Test.YthfhefdfehlbkaaGreatK21
import Derived.Test.YthfhefdfehlbkaaGreatK22
namespace Go.Proofs.YthfhefdfehlbkaaGreat
open Go.RowKit
open Tm (Sp Tr has put cut kids)
namespace Gm
def insE (ops:List Pm.Wr) (y:Pm.Wr):Int:=if Pm.okW y=true then (if y.x.k=1∨y.x.k=2∨y.x.k=5 then (if there ops y.s=true then 4 else 0) else 42) else 1
def insN (ops:List Pm.Wr) (y:Pm.Wr):Nat:=if insE ops y=0 then ops.length - place ops y.s else 0
def insO (ops:List Pm.Wr) (y:Pm.Wr):List Pm.Wr:=if insE ops y=0 then insAt ops (place ops y.s) y else ops
theorem insE_ok {ops:List Pm.Wr} {y:Pm.Wr}:insE ops y=0↔okX y=true∧there ops y.s=false:=by
 unfold insE okX
 cases h1:Pm.okW y <;> cases h2:there ops y.s <;> by_cases h3:y.x.k=1∨y.x.k=2∨y.x.k=5 <;> simp [h3] <;> omega
theorem insN_bad {ops:List Pm.Wr} {y:Pm.Wr} (h:insE ops y≠0):insN ops y=0:=if_neg h
theorem insO_bad {ops:List Pm.Wr} {y:Pm.Wr} (h:insE ops y≠0):insO ops y=ops:=if_neg h
theorem ins_at {ops:List Pm.Wr} {y:Pm.Wr} (ho:Ops ops) (hy:okX y=true) (ht:there ops y.s=false) {n:Nat} (hs:Spot ops y.s n):insE ops y=0∧insN ops y=ops.length - n∧insO ops y=insAt ops n y:=by
 have h1:=insE_ok.2 ⟨hy,ht⟩
 have h2:=Spot.uniq hs (place_spot ho.up ht)
 refine ⟨h1,?_,?_⟩
 ·unfold insN; rw [if_pos h1,h2]
 ·unfold insO; rw [if_pos h1,h2]
end Gm
def lined (χ:Nat→Nat) (lb:Nat) (v:Value):Nat→Nat:=fun k=>if k=lb then 6 else rowed χ v 2 k
theorem Grf.put {w1 wa w2:World} {X:Gx} {χ:Nat→Nat} {n lb:Nat} {y:Pm.Wr} (h:Grf w1 X χ) (hu:X.us.length≤n) (hy:Gm.okX y=true) (hs:Gm.Spot X.ops y.s n) (hf:X.ls.length<80) (hba:Below w1.heap.size w1 wa) (hlb:w1.heap.size≤lb) (ha:AgAt wa lb (lnA y)) {p p':Option Addr} {c c':Nat} (hpo:X.po=.slice p X.ls.length c)
  (ho:w2.ownsRow 0 162 1 (.slice p' (X.ls.length+1) c') (X.ls.length+1) ((X.ls.map fun e=>ptV e.2).take n ++ ptV lb :: (X.ls.map fun e=>ptV e.2).drop n)) (ht:Turns (fun k=>(Value.slice p X.ls.length c).ownBlock=some k) wa w2)
  (hne:∀ g,(Value.slice p' (X.ls.length+1) c').ownBlock=some g→(Value.slice p X.ls.length c).ownBlock=some g∨wa.heap.size≤g) :
  ∃ χ',Grf (w2.setCell ⟨X.b,2,none⟩ (.slice p' (X.ls.length+1) c')) { X with po:=.slice p' (X.ls.length+1) c',ls:=X.ls.take n ++ (y,lb) :: X.ls.drop n } χ'∧Goes w1 χ (w2.setCell ⟨X.b,2,none⟩ (.slice p' (X.ls.length+1) c')) χ':=by
 have hca:=h.toCore.kept hba
 have hn:n≤X.ls.length:=by have:=hs.le; unfold Gx.ops at this; rwa [List.length_map] at this
 have hXb:χ X.b=1:=h.cb
 have hpb:∀ k,(Value.slice p X.ls.length c).ownBlock=some k→χ k=2:=fun k hk=>h.co k (by rw [hpo]; exact hk)
 have hnb:(Value.slice p X.ls.length c).ownBlock≠some X.b:=fun e=>by have:=hpb _ e; rw [hXb] at this; cases this
 have hz:χ lb=0:=h.toCore.zero hlb
 have hlt:lb<wa.heap.size:=AgAt.lt ha
 have hnew:∀ k,(Value.slice p' (X.ls.length+1) c').ownBlock=some k→(χ k=0∨χ k=2)∧k≠lb:=fun k hk=>by
  rcases hne k hk with h1 | h1
  ·exact ⟨Or.inr (hpb k h1),fun e=>by rw [e] at h1; have:=hpb _ h1; rw [hz] at this; cases this⟩
  ·exact ⟨Or.inl (hca.zero h1),fun e=>by omega⟩
 have hold:∀ k,χ k≠0→lined χ lb (.slice p' (X.ls.length+1) c') k=χ k:=fun k hk=>by
  unfold lined
  rw [if_neg (fun e=>by rw [e] at hk; exact hk hz)]
  exact rowed_old hk
 have hT2:Turns (fun k=>k=X.b) w2 (w2.setCell ⟨X.b,2,none⟩ (.slice p' (X.ls.length+1) c')):=set_turns X.b w2 2 _
 have hT:Turns (fun k=>χ k=1∨χ k=2) wa (w2.setCell ⟨X.b,2,none⟩ (.slice p' (X.ls.length+1) c')) :=
  (ht.mono fun k _ hk=>Or.inr (hpb k hk)).trans (hT2.mono fun k _ hk=>Or.inl (Or.inl (by rw [show k=X.b from hk]; exact hXb)))
 have hT3:Turns (fun k=>χ k=1∨χ k=2∨χ k=3) wa (w2.setCell ⟨X.b,2,none⟩ (.slice p' (X.ls.length+1) c')):=hT.mono fun k _ hk=>by omega
 have hlen:(X.ls.take n ++ (y,lb) :: X.ls.drop n).length=X.ls.length+1:=by rw [List.length_append,List.length_cons,List.length_take,List.length_drop]; omega
 have hops:(X.ls.take n ++ (y,lb) :: X.ls.drop n).map Prod.fst=Gm.insAt X.ops n y:=by
  unfold Gm.insAt Gx.ops
  rw [List.map_append,List.map_cons,List.map_take,List.map_drop]
 have hcells:AgAt (w2.setCell ⟨X.b,2,none⟩ (.slice p' (X.ls.length+1) c')) X.b ({ X with lk:=X.lk,po:=.slice p' (X.ls.length+1) c',pu:=X.pu,us:=X.us,ls:=X.ls.take n ++ (y,lb) :: X.ls.drop n }:Gx).cells:=by
  have h1:AgAt w2 X.b X.cells:=AgAt.block hca.at_ (ht.block _ (AgAt.lt hca.at_) hnb)
  exact h1.put 2 _
 have hkeep:∀ k,χ k=6→lined χ lb (.slice p' (X.ls.length+1) c') k=6∧(w2.setCell ⟨X.b,2,none⟩ (.slice p' (X.ls.length+1) c')).heap[k]?=w1.heap[k]?:=fun k hk=>by
  have hl:=h.lt k (by rw [hk]; decide)
  exact ⟨(hold k (by rw [hk]; decide)).trans hk,(hT.block k (Nat.lt_of_lt_of_le hl hba.size) (by rw [hk]; decide)).trans (hba.block k hl)⟩
 have hcore:=hca.rows (w':=w2.setCell ⟨X.b,2,none⟩ (.slice p' (X.ls.length+1) c')) (χ':=lined χ lb (.slice p' (X.ls.length+1) c')) hT3 hold (fun k hk=>by
   unfold lined at hk
   split at hk
   ·next e=>rw [e]; exact Nat.lt_of_lt_of_le hlt hT.size
   ·rcases rowed_none hk with h1 | h1
    ·exact Nat.lt_of_lt_of_le (hca.lt k h1) hT.size
    ·have:=(World.ownsRow.lt ho k h1).2
     simpa using this) X.lk (.slice p' (X.ls.length+1) c') X.pu (X.ls.take n ++ (y,lb) :: X.ls.drop n) X.us hcells ?_ (fun k hk=>by
    unfold lined
    rw [if_neg (hnew k hk).2]
    exact rowed_own hk (hnew k hk).1) ?_ (fun k hk=>(hold k (by rw [h.cu k hk]; decide)).trans (h.cu k hk)) (fun e he=>?_) ?_ (by rw [hlen]; omega) (fun m hm=>?_)
 ·refine ⟨lined χ lb (.slice p' (X.ls.length+1) c'),⟨?_,?_,fun i u x hi hx=>?_⟩,?_⟩
  ·show Core _ _ _ (Gm.run (((X.ls.take n ++ (y,lb) :: X.ls.drop n).map Prod.fst).take X.us.length))
   rw [hops,Gm.insAt_take (by unfold Gx.ops; rw [List.length_map]; exact hn) _ hu]
   exact hcore
  ·show X.us.length≤(X.ls.take n ++ (y,lb) :: X.ls.drop n).length
   rw [hlen]; omega
  ·have hil:i<X.us.length:=(List.getElem?_eq_some_iff.1 hi).1
   have hx2:((X.ls.take n ++ (y,lb) :: X.ls.drop n).map Prod.fst)[i]?=some x:=hx
   show UkOk _ _ (Gm.run (((X.ls.take n ++ (y,lb) :: X.ls.drop n).map Prod.fst).take i)) x u
   rw [hops] at hx2 ⊢
   rw [Gm.insAt_take (by unfold Gx.ops; rw [List.length_map]; exact hn) _ (by omega)]
   have hx3:X.ops[i]?=some x:=by
    unfold Gm.insAt at hx2
    rw [List.getElem?_append_left (by rw [List.length_take]; unfold Gx.ops; rw [List.length_map]; omega),List.getElem?_take_of_lt (by omega)] at hx2
    exact hx2
   exact (h.un i u x hi hx3).keep hkeep
  ·refine ⟨(Turns.of_below hba).trans (hT.mono fun k _ hk=>Or.inl (by omega)),fun k hk=>?_⟩
   unfold lined
   rw [if_neg (fun e=>by omega)]
   unfold rowed
   split
   ·rfl
   ·next e =>
    have e0:χ k=0:=by omega
    rw [e0]
    split
    ·next hk2 =>
     rcases hne k hk2 with h1 | h1
     ·rw [hpb k h1] at e0; cases e0
     ·have:=hba.size; omega
    ·rfl
 ·refine hT2.own ?_ (fun k hk e=>?_)
  ·rw [hlen]
   have:(X.ls.take n ++ (y,lb) :: X.ls.drop n).map (fun e=>ptV e.2)=(X.ls.map fun e=>ptV e.2).take n ++ ptV lb :: (X.ls.map fun e=>ptV e.2).drop n:=by rw [List.map_append,List.map_cons,List.map_take,List.map_drop]
   rw [this]
   exact ho
  ·rcases (hnew k hk).1 with h1 | h1 <;> rw [show k=X.b from e,hXb] at h1 <;> cases h1
 ·refine hT2.own (ht.own hca.ru fun k hk e=>?_) (fun k hk e=>?_)
  ·have h1:=hpb k e
   rw [h.cu k hk] at h1; cases h1
  ·have h1:=h.cu k hk
   rw [show k=X.b from e,hXb] at h1; cases h1
 ·have hin:e ∈ X.ls∨e=(y,lb):=by
   rcases List.mem_append.1 he with h1 | h1
   ·exact Or.inl (List.mem_of_mem_take h1)
   ·rcases List.mem_cons.1 h1 with h1 | h1
    ·exact Or.inr h1
    ·exact Or.inl (List.mem_of_mem_drop h1)
  rcases hin with h1 | rfl
  ·have h2:=h.ln e h1
   exact ⟨(hkeep _ h2.1).1,h2.2.block (hkeep _ h2.1).2⟩
  ·exact ⟨if_pos rfl,ha.block (hT.block _ hlt (by rw [hz]; decide))⟩
 ·rw [hops]
  exact h.ops.ins hy hs
 ·obtain ⟨e,he,h2⟩:=h.dom m hm
  refine ⟨e,?_,h2⟩
  rw [← List.take_append_drop n X.ls] at he
  rcases List.mem_append.1 he with h1 | h1
  ·exact List.mem_append_left _ h1
  ·exact List.mem_append_right _ (List.mem_cons_of_mem _ h1)
theorem wp_build_line {w:World} {o:Oper} {a:Act} {K:Act→World→Prop} {Q:Exit→Act→World→Prop} (x:Operand) (ho:o.op=.buildSlice 154 1 #[(0,x)]) (lb:Nat) (hx:a.eval x=ptV lb)
  (h:K (a.put o.dst (.slice (some ⟨w.heap.size,0,none⟩) 1 1)) (w.alloc (.cells #[ptV lb] 162))):Oper.wp Tryz.prog o a w K Q:=by
 have hr:(Instr.buildSlice 154 1 #[(0,ptV lb)]).run Tryz.prog w=.ok (.slice (some ⟨w.heap.size,0,none⟩) 1 1) (w.alloc (.cells #[ptV lb] 162)):=by kernel_rfl
 unfold Oper.wp execOp
 simp only [ho,Sem.run_bind,Sem.run_pure,Result.andThen_ok,List.map_toArray,List.map_cons,List.map_nil,hx,hr]
 exact h
theorem run_box_line (w:World) (A:Array Value):(Instr.box 172 (.agg A)).run Tryz.prog w=.ok (ptV w.heap.size) (w.alloc (.cells A 172)):=by rfl
theorem wp_box_line {w:World} {o:Oper} {a:Act} {K:Act→World→Prop} {Q:Exit→Act→World→Prop} (x:Operand) (ho:o.op=.box 172 x) (A:Array Value) (hx:a.eval x=.agg A)
  (h:K (a.put o.dst (ptV w.heap.size)) (w.alloc (.cells A 172))):Oper.wp Tryz.prog o a w K Q:=by
 unfold Oper.wp execOp
 simp only [ho,Sem.run_bind,Sem.run_pure,Result.andThen_ok,hx,run_box_line]
 exact h
theorem exec_build_line {o:Oper} {a:Act} {w:World} (x y:Operand) (ho:o.op=.build 172 #[(0,x),(1,y)]) (v:Pm.Wr) (hx:a.eval x=snV v.s) (hy:a.eval y=.agg (opA v.x none 0)):(execOp a.eval o).run Tryz.prog w=.ok (.value (.agg (lnA v))) w:=by
 have hr:(Instr.build 172 #[(0,snV v.s),(1,.agg (opA v.x none 0))]).run Tryz.prog w=.ok (.agg (lnA v)) w:=by kernel_rfl
 unfold execOp
 simp only [ho,Sem.run_bind,Sem.run_pure,Result.andThen_ok,List.map_toArray,List.map_cons,List.map_nil,hx,hy,hr]
open Go.RowKit
open Tm (Sp Tr has put cut kids)
def Left (gg:Nat) (ops:List Pm.Wr) (χ:Nat→Nat) (w w':World):Prop:=∃ χ',Gra w' gg ops χ'∧Goes w χ w' χ'
end Go.Proofs.YthfhefdfehlbkaaGreat
namespace Go.Proofs.YthfhefdfehlbkaaGreat.Gm
open Go.Proofs.YthfhefdfehlbkaaGreat
def insAll (l:List Pm.Wr):List Pm.Wr:=l.foldl insO []
theorem insAll_snoc (l:List Pm.Wr) (w:Pm.Wr):insAll (l ++ [w])=insO (insAll l) w:=by simp [insAll,List.foldl_append]
theorem Ops.insO {ops:List Pm.Wr} (h:Ops ops) (w:Pm.Wr):Ops (insO ops w):=by
 by_cases he:insE ops w=0
 ·obtain ⟨h1,h2⟩:=insE_ok.1 he
  unfold Gm.insO
  rw [if_pos he]
  exact h.ins h1 (place_spot h.up h2)
 ·rw [insO_bad he]; exact h
theorem insO_len (ops:List Pm.Wr) (w:Pm.Wr):(insO ops w).length≤ops.length+1:=by
 by_cases he:insE ops w=0
 ·unfold insO
  rw [if_pos he,insAt_length]
  exact Nat.le_refl _
 ·rw [insO_bad he]; omega
theorem ops_all (l:List Pm.Wr):Ops (insAll l):=by
 refine snoc_ind (P:=fun l=>Ops (insAll l)) Ops.nil (fun l w ih=>?_) l
 rw [insAll_snoc]
 exact ih.insO w
theorem len_all (l:List Pm.Wr):(insAll l).length≤l.length:=by
 refine snoc_ind (P:=fun l=>(insAll l).length≤l.length) (Nat.le_refl _) (fun l w ih=>?_) l
 rw [insAll_snoc,List.length_append]
 have:=insO_len (insAll l) w
 simp only [List.length_cons,List.length_nil]
 omega
end Go.Proofs.YthfhefdfehlbkaaGreat.Gm

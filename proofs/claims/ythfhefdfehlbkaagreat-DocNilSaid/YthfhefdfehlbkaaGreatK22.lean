/-
  slices.Insert at lines: one line more, behind the first i.
  No conditions but sizes.
  now: all ops are tried, behind a lock.
  No conditions but sizes.
  A GRAPH's LOOKS: ours, find, Done, Count, Spot, Has, Ref, Reaches.
  No conditions but sizes.
-/
import Derived.Test.YthfhefdfehlbkaaGreatSh
import Derived.Test.YthfhefdfehlbkaaGreatK21
import Derived.Test.YthfhefdfehlbkaaGreatK02
import Derived.Lib.AppendZeros
import Derived.Lib.Overlaps
import Derived.Laws.IdiomCopy
import Derived.Laws.Externs
import Derived.Defers
set_option maxRecDepth 100000
set_option maxHeartbeats 4000000
namespace Go.Proofs.YthfhefdfehlbkaaGreat
open Go.RowKit
open Tm (Sp Tr has put cut kids)
theorem run_append_zerosG {P:Program} (w:World) (t tn ty e:TypeId) (i:TypeInfo) (z:Value) (k kn:IntKind) (ht:P.underlying t=some (.slice e)) (htn:P.underlying tn=some (.int kn)) (hi:P.info? e=some i) (hz:i.zero=some z)
  (a:Addr) (n c m:Nat) (cs:List Value) (hold:(Builtin.firstCells i.size n (.slice (some a) n c)).run P w.drew=.ok cs.toArray w.drew) (h0:0<m) (hs:0<i.size) (hgrow:c<n+m) (hm:n+m≤10000) (hb:i.bytes≤1000) :
  (Builtin.append_ #[t,tn] ty #[.slice (some a) n c,.int k m]).run P w =
   .ok (.slice (some ⟨w.heap.size,0,none⟩) (n+m) (grownCap w (n+m) c e)) (w.drew.alloc (.cells (cs.toArray ++ Builtin.zeroCells z.cells m ++ Builtin.zeroCells z.cells (grownCap w (n+m) c e - (n+m))) e)):=by
 have hn:m≠0:=by omega
 have hw:IntKind.i64.wrap (m:Int)=m:=by rw [IntKind.wrap_i64]; omega
 have h63n:¬ (9223372036854775807<(n:Int)+(m:Int)):=by omega
 have hfit:=grow_fits (need:=n+m) (old:=c) (bytes:=i.bytes) hgrow (Nat.le_trans (Nat.mul_le_mul hm hb) (by decide)) (by omega)
 have h48':¬ (281474976710656<Builtin.nextslicecap (n+m) c * i.bytes):=by omega
 have h48i:¬ (281474976710656<(m:Int) * (i.bytes:Int)):=by
  rw [← Int.natCast_mul]
  have:m * i.bytes≤10000 * 1000:=Nat.mul_le_mul (by omega) hb
  omega
 have hneg:¬ ((m:Int)<0):=by omega
 have hns:¬ (m * i.size=0):=Nat.mul_ne_zero hn (by omega)
 have hcg:¬ (n+m≤c):=by omega
 simp [Builtin.append_,run_underlying ht,run_underlying htn,sizeOf,typeInfo,zeroValue,hi,hz,asInt,asIntOf,hw,hneg,hns,h63n,h48',h48i,hcg,Question.forced,hold,newRow,grownCap]
theorem own_moreG {w:World} {E:TypeId} {p:Option Addr} {n c:Nat} {xs:List Value} (h:w.ownsRow 0 E 1 (.slice p n c) n xs) (hc:n<c):∃ y,w.ownsRow 0 E 1 (.slice p (n+1) c) (n+1) (xs ++ [y]):=by
 obtain ⟨h1,⟨h2,rfl⟩ | ⟨g,cap,cur,hv,h3,h4,h5,h6,h7,h8⟩⟩:=h
 ·cases h2; omega
 ·cases hv
  have hl:n<cur.toList.length:=by rw [Array.length_toList]; omega
  refine ⟨cur.toList[n],by rw [List.length_append,h1]; simp,Or.inr ⟨g,c,cur,rfl,h3,h4,by omega,h6,h7,?_⟩⟩
  rw [Nat.mul_one] at h8 ⊢
  rw [List.take_add_one,h8,List.getElem?_eq_getElem hl]
  rfl
theorem get_insG (cs:List Value) (x:Value) (i j:Nat) (hi:i≤cs.length):(cs.take i ++ x :: cs.drop i)[j]?=if j<i then cs[j]? else if j=i then some x else cs[j - 1]?:=by
 have ht:(cs.take i).length=i:=by rw [List.length_take]; omega
 by_cases h1:j<i
 ·rw [if_pos h1,List.getElem?_append_left (by omega),List.getElem?_take_of_lt h1]
 ·rw [if_neg h1,List.getElem?_append_right (by omega),ht]
  by_cases h2:j=i
  ·subst h2
   rw [if_pos rfl,Nat.sub_self]
   rfl
  ·rw [if_neg h2]
   obtain ⟨k,rfl⟩:∃ k,j=i+1+k:=⟨j - i - 1,by omega⟩
   rw [show i+1+k - i=k+1 from by omega,List.getElem?_cons_succ,List.getElem?_drop,show i+1+k - 1=i+k from by omega]
theorem setL_insG (cs ys:List Value) (x:Value) (i:Nat) (hi:i≤cs.length) (hl:(cs.take i ++ ys).length=cs.length+1):setL (setL (cs.take i ++ ys) i [x]) (i+1) (cs.drop i)=cs.take i ++ x :: cs.drop i:=by
 apply List.ext_getElem?
 intro j
 have hl1:(setL (cs.take i ++ ys) i [x]).length=cs.length+1:=by rw [setL_length,hl]
 have hd:(cs.drop i).length=cs.length - i:=List.length_drop
 have ht:(cs.take i).length=i:=by rw [List.length_take]; omega
 have hx:[x].length=1:=rfl
 rw [get_insG cs x i j hi,setL_get _ _ _ (by omega),setL_get _ _ _ (by omega),hx,hd]
 by_cases h1:j<i
 ·rw [if_neg (by omega),if_neg (by omega),if_pos h1,List.getElem?_append_left (by omega),List.getElem?_take_of_lt h1]
 ·by_cases h2:j=i
  ·subst h2
   rw [if_neg (by omega),if_pos (by omega),if_neg (by omega),if_pos rfl,Nat.sub_self]
   rfl
  ·by_cases h3:j<cs.length+1
   ·rw [if_pos (by omega),if_neg h1,if_neg h2,List.getElem?_drop,show i+(j - (i+1))=j - 1 from by omega]
   ·rw [if_neg (by omega),if_neg (by omega),if_neg h1,if_neg h2,List.getElem?_eq_none (by omega),List.getElem?_eq_none (by omega)]
theorem setL_shiftG (cs:List Value) (x y:Value) (i:Nat) (hi:i≤cs.length):setL (setL (cs ++ [y]) (i+1) (cs.drop i)) i [x]=cs.take i ++ x :: cs.drop i:=by
 apply List.ext_getElem?
 intro j
 have hd:(cs.drop i).length=cs.length - i:=List.length_drop
 have hy:(cs ++ [y]).length=cs.length+1:=by simp
 have hl1:(setL (cs ++ [y]) (i+1) (cs.drop i)).length=cs.length+1:=by rw [setL_length,hy]
 have hx:[x].length=1:=rfl
 rw [get_insG cs x i j hi,setL_get _ _ _ (by omega),setL_get _ _ _ (by omega),hx,hd]
 by_cases h1:j<i
 ·rw [if_neg (by omega),if_neg (by omega),if_pos h1,List.getElem?_append_left (by omega)]
 ·by_cases h2:j=i
  ·subst h2
   rw [if_pos (by omega),if_neg (by omega),if_pos rfl,Nat.sub_self]
   rfl
  ·rw [if_neg (by omega)]
   by_cases h3:j<cs.length+1
   ·rw [if_pos (by omega),if_neg h1,if_neg h2,List.getElem?_drop,show i+(j - (i+1))=j - 1 from by omega]
   ·rw [if_neg (by omega),if_neg h1,if_neg h2,List.getElem?_eq_none (by omega),List.getElem?_eq_none (by omega)]
def Insd (p:Option Addr) (n c i:Nat) (xs:List Value) (x:Value) (w:World) (e:Ending) (w':World):Prop :=
 ∃ p' c',e=.returned (.slice p' (n+1) c')∧w'.ownsRow 0 162 1 (.slice p' (n+1) c') (n+1) (xs.take i ++ x :: xs.drop i)∧Turns (fun k=>(Value.slice p n c).ownBlock=some k) w w'∧∀ g,(Value.slice p' (n+1) c').ownBlock=some g→(Value.slice p n c).ownBlock=some g∨w.heap.size≤g
theorem setCells_turnsG (b:Nat):∀ (vs:List Value) (o:Nat) (w:World),Turns (fun k=>k=b) w (w.setCells b o vs)
 | [],_,w=>Turns.refl _ w
 | v :: r,o,w=>(set_turns b w o v).trans ((setCells_turnsG b r (o+1) (w.setCell ⟨b,o,none⟩ v)).mono fun _ _ hk=>Or.inl hk)
theorem own_zerosG (w:World) (cs:List Value) (m k:Nat) {z:Value} {e:TypeId} (hz:z.cells.size=1) (hm:cs.length+m+k≤maxLen) :
  (w.alloc (.cells (cs.toArray ++ (Builtin.zeroCells z.cells m ++ Builtin.zeroCells z.cells k)) e)).drew.ownsRow 0 e 1 (.slice (some ⟨w.heap.size,0,none⟩) (cs.length+m) (cs.length+m+k)) (cs.length+m) (cs ++ (Builtin.zeroCells z.cells m).toList):=by
 have hs:=size_zeroCells z.cells m
 rw [hz,Nat.mul_one] at hs
 have hk:=size_zeroCells z.cells k
 rw [hz,Nat.mul_one] at hk
 have hs':(Builtin.zeroCells z.cells m).toList.length=m:=by rw [Array.length_toList]; exact hs
 refine ⟨by rw [List.length_append,hs',Nat.mul_one],Or.inr ⟨w.heap.size,_,_,rfl,Nat.zero_le _,heap_alloc_new w _,Nat.le_add_right _ _,hm,?_,?_⟩⟩
 ·rw [Array.size_append,Array.size_append,hs,hk,List.size_toArray,Nat.mul_one,Nat.add_assoc]
 ·rw [Nat.mul_one]
  simp only [Array.toList_append]
  rw [← List.append_assoc,List.take_left' (by rw [List.length_append,hs'])]
theorem exec_copyG {a:Act} {w w':World} {o:Oper} {d s:Operand} {t t':TypeId} (ho:o.op=.call { callee:=.builtin .copy,args:=#[d,s],argTypes:=#[t,t'] }) {v u v':Value} (hd:a.eval d=v) (hs:a.eval s=u)
  (hr:(Builtin.copy_ #[t,t'] o.type #[v,u]).run Tryz.prog w=.ok v' w'):(execOp a.eval o).run Tryz.prog w=.ok (.value v') w':=by
 unfold execOp
 simp only [ho,resolve,invoke,builtin,Sem.run_bind,Sem.run_pure,Result.andThen_ok,List.map_toArray,List.map_cons,List.map_nil,hd,hs,hr]
theorem wp_copyG {a:Act} {w w':World} {o:Oper} {K:Act→World→Prop} {Q:Exit→Act→World→Prop} {d s:Operand} {t t':TypeId} (ho:o.op=.call { callee:=.builtin .copy,args:=#[d,s],argTypes:=#[t,t'] }) {v u v':Value} (hd:a.eval d=v) (hs:a.eval s=u)
  (hr:(Builtin.copy_ #[t,t'] o.type #[v,u]).run Tryz.prog w=.ok v' w') (h:K (a.put o.dst v') w'):Oper.wp Tryz.prog o a w K Q:=by
 unfold Oper.wp
 rw [exec_copyG ho hd hs hr]
 exact h
theorem size_lineG:(Tryz.prog.info? 162).map (·.size)=some 1:=by
 obtain ⟨i,h1,-,h2,-⟩:=lineR.info
 rw [h1]; simp [h2]
theorem insert_any (p:Option Addr) (n c i vb lb:Nat) (xs:List Value) (w:World) (h:w.ownsRow 0 162 1 (.slice p n c) n xs) (hi:i≤n) (hn:n≤80) (hv:AgAt w vb #[ptV lb]) (hvo:(Value.slice p n c).ownBlock≠some vb) (h1:∀ v ∈ xs,v.oneCell'=true) :
  Calls Tryz.prog 87 #[.slice p n c,.int .i64 (i:Int),.slice (some ⟨vb,0,none⟩) 1 1] w (Insd p n c i xs (ptV lb) w):=by
 have HO:=Hi h
 have HV:=Hi hv
 have HI:=Hi (And.intro hi hn)
 have hxl:xs.length=n:=by have:=h.1; omega
 have HXL:=Hi hxl
 have HRV:=Hi (show Rd w (some ⟨vb,0,none⟩) [ptV lb] from fun _=>⟨_,0,rfl,fun j u hu=>by rw [Nat.zero_add,AgAt.cell hv]; simpa using hu⟩)
 have hin:i≤n:=hi
 have hnc:=own_capG h
 have hi10:i≤80:=by omega
 have hn10:=hn
 have H1:=Hi h1
 have HVO:=Hi hvo
 obtain ⟨i0,hi0,hz00,hz1,hz22⟩:=lineR.info
 by_cases he:i=n
 ·subst he
  have d1:((i:Int) == (i:Int))=true:=by simp
  clear h hv hi h1 hvo
  go_enter Tryz.func87,Tryz.ntmps87
  go_wp2_with (first | (refine wpList_value (by kernel_rfl) (lineR.dropE rfl rfl rfl hin) ?_) | (at_builtin; refine wpList_append_k rfl _ _ 154 rfl 0 162 i0 _ 1 8 Tryz.underlying154 hi0 hz00 hz1 (by decide) hz22 (by decide) rfl _ i xs rfl HO.out _ 1 1 [ptV lb] rfl rfl HRV.out (fun h=>by cases h) (fun v hv=>by rw [List.mem_singleton.1 hv]; rfl) (by omega) (Nat.zero_le _) ?_; intro p6 c6 w6 ho6 hg6 hn6))
  go_ret
  exact ⟨p6,c6,rfl,by rw [List.take_of_length_le (by omega),List.drop_eq_nil_of_le (by omega)]; exact ho6,Turns.of_grown hg6,hn6⟩
 ·have hlt:i<n:=by omega
  have d1:((i:Int) == (n:Int))=false:=by rw [beq_eq_false_iff_ne]; omega
  have d1':¬ ((i:Int)=(n:Int)):=by omega
  obtain ⟨g,hg⟩:∃ g,p=some ⟨g,0,none⟩:=by
   obtain ⟨p2,c2,hv2,h2⟩:=own_sliceG h
   cases hv2
   exact h2 (by omega)
  subst hg
  have hic:i≤c:=by omega
  have hrd:=own_1 h
  by_cases hcap:c<n+1
  ·have d2:decide ((c:Int)<(n:Int)+1)=true:=decide_eq_true (by omega)
   have hw1:IntKind.i64.wrap ((n:Int)+1 - (i:Int))=((n+1 - i:Nat):Int):=by rw [wraps_i64 _ (by omega) (by omega)]; omega
   have hza:=fun ty=>run_append_zerosG (P:=Tryz.prog) w 154 3 ty 162 i0 (.pointer none) .i64 .i64 Tryz.underlying154 Tryz.underlying3 hi0 hz00 ⟨g,0,none⟩ i c (n+1 - i) (xs.take i) (by
    rw [hz1]
    exact run_firstCells_some w.drew 1 i ⟨g,0,none⟩ i c (xs.take i) (by rw [List.length_take]; omega) (fun j v hj=>by
     have h3:=hrd j v (by
      rw [List.getElem?_take] at hj
      split at hj
      ·exact hj
      ·cases hj)
     rw [Addr.add_lit,Nat.zero_add]; exact h3)) (by omega) (by omega) (by omega) (by omega) (by omega)
   rw [show i+(n+1 - i)=n+1 from by omega] at hza
   clear h hv hi h1 hvo hrd he hlt hcap
   go_enter Tryz.func87,Tryz.ntmps87
   go_upto_region 10 with (first | (refine wpList_value (by kernel_rfl) (lineR.dropE rfl rfl rfl hin) ?_) | (refine wpList_value (by kernel_rfl) (lineR.take rfl rfl rfl hic) ?_) | (at_builtin; refine Lib.wpList_append_run _ rfl _ _ _ _ rfl _ _ rfl rfl _ _ (hza _) ?_))
   have HOZ:=Hi (own_zerosG w (xs.take i) (n+1 - i) (grownCap w (n+1) c 162 - (n+1)) (z:=.pointer none) (e:=162) rfl (by rw [List.length_take,HXL.out,Nat.min_eq_left hin]; have:=grownCap_ge w (n+1) c 162; have:=grownCap_le_maxLen w (n+1) c 162 (by unfold maxLen; omega); omega))
   rw [show (Value.pointer none).cells=#[Value.pointer none] from rfl,List.length_take,HXL.out,Nat.min_eq_left hin,show i+(n+1 - i)=n+1 from by omega,show n+1+(grownCap w (n+1) c 162 - (n+1))=grownCap w (n+1) c 162 from by have:=grownCap_ge w (n+1) c 162; omega] at HOZ
   have HGE:=Hi (grownCap_ge w (n+1) c 162)
   have hbx:Below w.heap.size w (w.alloc (.cells ((xs.take i).toArray ++ (Builtin.zeroCells #[Value.pointer none] (n+1 - i) ++ Builtin.zeroCells #[Value.pointer none] (grownCap w (n+1) c 162 - (n+1)))) 162)).drew:=((Below.refl _ w).alloc (Nat.le_refl _) _).drew
   have HBX:=Hi hbx
   have HV9:=Hi (AgAt.kept HV.out hbx)
   have HO9:=Hi (own_belowG HO.out hbx)
   clear hbx hza
   generalize (w.alloc (.cells ((xs.take i).toArray ++ (Builtin.zeroCells #[Value.pointer none] (n+1 - i) ++ Builtin.zeroCells #[Value.pointer none] (grownCap w (n+1) c 162 - (n+1)))) 162)).drew=W9 at *
   generalize grownCap w (n+1) c 162=cp at *
   have HNB:=Hi (show w.heap.size≠vb∧w.heap.size≠g from ⟨fun e=>by have:=AgAt.lt HV.out; omega,fun e=>by have:=(World.ownsRow.lt HO.out g rfl).2; omega⟩)
   have HNW:=Hi (And.intro (Nat.le_refl w.heap.size) HBX.out.size)
   obtain ⟨nb,hnb⟩:∃ nb,nb=w.heap.size:=⟨_,rfl⟩
   rw [← hnb] at HOZ HNB ⊢
   replace HNW:=Hi (show w.heap.size≤nb∧True from ⟨by rw [hnb]; exact Nat.le_refl _,trivial⟩)
   clear hnb
   have hyl:(Builtin.zeroCells #[Value.pointer none] (n+1 - i)).toList.length=n+1 - i:=by rw [Array.length_toList,size_zeroCells]; simp
   generalize (Builtin.zeroCells #[Value.pointer none] (n+1 - i)).toList=ys at *
   have hrow:(xs.take i ++ ys).length=n+1:=by rw [List.length_append,List.length_take,HXL.out,hyl]; omega
   have hdr:drA 1 (some ⟨nb,0,none⟩) cp i=some ⟨nb,i,none⟩:=by unfold drA; rw [if_neg (by have:=HGE.out; omega)]; rw [Option.map_some,Addr.add_mid,Nat.zero_add,Nat.mul_one]
   have hdr2:drA 1 (some ⟨nb,0,none⟩) cp (i+1)=some ⟨nb,i+1,none⟩:=by unfold drA; rw [if_neg (by have:=HGE.out; omega),Option.map_some,Addr.add_mid,Nat.zero_add,Nat.mul_one]
   have hin2:i+1≤n+1:=by omega
   have hin1:i≤n+1:=by omega
   have hcp1:=fun ty=>run_copy_cells (P:=Tryz.prog) W9 154 154 ty 162 nb i (n+1 - i) (cp - i) ⟨vb,0,none⟩ 1 1 [ptV lb] Tryz.underlying154 size_lineG (by simp only [List.length_cons,List.length_nil,Nat.min_def]; split <;> omega) (fun j v hj=>by
     rw [Addr.add_mid,Nat.zero_add,AgAt.cell HV9.out]
     simpa using hj) (fun j hj=>(own_there HOZ.out i 1 (by rw [hrow]; omega) j (by simpa using hj)).1) (fun j hj=>(own_there HOZ.out i 1 (by rw [hrow]; omega) j (by simpa using hj)).2) (fun v hv=>by rw [List.mem_singleton.1 hv]; rfl)
   obtain ⟨W10,hW10⟩:∃ W,W=W9.setCells nb i [ptV lb]:=⟨_,rfl⟩
   have HO10:=Hi (own_setCells [ptV lb] W9 i HOZ.out)
   rw [← hW10] at hcp1 HO10
   have ht10:Turns (fun k=>k=nb) W9 W10:=by rw [hW10]; exact setCells_turnsG nb _ _ _
   have HT10:=Hi ht10
   have HS10:=Hi (ht10.own HO9.out fun k hk e=>HNB.out.2 (by cases hk; exact e.symm))
   clear hW10 ht10
   go_upto_region 11 with (first | (refine wpList_value (by kernel_rfl) (lineR.dropE rfl rfl rfl hin1) ?_; rw [hdr]) | (refine wpList_value (by kernel_rfl) (exec_copyG rfl rfl rfl (hcp1 _)) ?_))
   clear hcp1 hdr
   have HO11:=Hi (own_belowG HO10.out.1 (Below.drew (Below.refl W10.heap.size W10)))
   have HS11:=Hi (own_1 (own_belowG HS10.out (Below.drew (Below.refl W10.heap.size W10))))
   have HT11:=Hi (HT10.out.trans (Turns.of_below (Below.drew (Below.refl W10.heap.size W10))))
   have hl11:(setL (xs.take i ++ ys) i [ptV lb]).length=n+1:=by rw [setL_length,hrow]
   refine wp_region_held_drew (S:=fun _=>True) (by kernel_rfl) trivial (fun hS=>?_)
   generalize W10.drew=wd at *
   have hdd:(xs.drop i).length=n - i:=by rw [List.length_drop,HXL.out]
   have hgi:drA 1 (some ⟨g,0,none⟩) c i=some ⟨g,i,none⟩:=by unfold drA; rw [if_neg (by omega),Option.map_some,Addr.add_mid,Nat.zero_add,Nat.mul_one]
   have hcp2:=fun ty=>run_copy_cells (P:=Tryz.prog) wd 154 154 ty 162 nb (i+1) (n - i) (cp - (i+1)) ⟨g,i,none⟩ (n - i) (c - i) (xs.drop i) Tryz.underlying154 size_lineG (by rw [hdd]; simp only [Nat.min_def]; split <;> omega) (fun j v hj=>by
     rw [Addr.add_mid]
     exact HS11.out (i+j) v (by rw [List.getElem?_drop] at hj; exact hj)) (fun j hj=>(own_there HO11.out (i+1) (n - i) (by rw [hl11]; omega) j (by omega)).1) (fun j hj=>(own_there HO11.out (i+1) (n - i) (by rw [hl11]; omega) j (by omega)).2) (fun v hv=>H1.out v (List.mem_of_mem_drop hv))
   refine tX 0 rfl hS ?_
   refine tX 1 rfl hS ?_
   refine tX 2 rfl hS ?_
   go_simp
   refine tK 3 (v:=.int .i64 ((i+1:Nat):Int)) rfl (fun W hSW=>by rw [Int.natCast_add]; go_simp; exact wraps_i64 _ (by omega) (by omega)) hS ?_
   go_simp
   refine tK 4 (v:=.slice (some ⟨nb,i+1,none⟩) (n - i) (cp - (i+1))) rfl (fun W hSW=>(lineR.dropE (i:=i+1) rfl rfl rfl hin2).trans (by rw [hdr2,Nat.add_sub_add_right])) hS ?_
   refine tX 5 rfl hS ?_
   refine tX 6 rfl hS ?_
   go_simp
   refine tK 7 (v:=.slice (some ⟨g,i,none⟩) (n - i) (c - i)) rfl (fun W hSW=>(lineR.dropE rfl rfl rfl hin).trans (by rw [hgi])) hS ?_
   go_simp
   refine rD 8 rfl (fun K hK=>?_)
   refine step_of (by kernel_rfl) ?_
   refine wp_copyG (v:=.slice (some ⟨nb,i+1,none⟩) (n - i) (cp - (i+1))) (u:=.slice (some ⟨g,i,none⟩) (n - i) (c - i)) rfl rfl rfl (hcp2 _) ?_
   refine hK.out _ _ trivial (fun hS=>?_)
   clear hK K
   refine wpAnyH_done (by kernel_rfl) ?_ _
   go_simp
   have HO12:=Hi (own_setCells (xs.drop i) wd (i+1) HO11.out)
   have HT12:=Hi (HT11.out.trans ((setCells_turnsG nb (xs.drop i) (i+1) wd).mono fun k _ hk=>Or.inl hk))
   generalize wd.setCells nb (i+1) (xs.drop i)=w12 at *
   have HE:=Hi (show Insd (some ⟨g,0,none⟩) n c i xs (ptV lb) w (.returned (.slice (some ⟨nb,0,none⟩) (n+1) cp)) w12 from by
    refine ⟨_,_,rfl,?_,?_,fun j hj=>Or.inr (by cases hj; exact HNW.out.1)⟩
    ·have h5:=HO12.out.1
     rw [setL_insG xs ys (ptV lb) i (by rw [HXL.out]; exact hin) (by rw [hrow,HXL.out])] at h5
     exact h5
    ·exact (Turns.of_below HBX.out).trans (HT12.out.mono fun k _ hk=>Or.inr (by rw [hk]; exact HNW.out.1))
   )
   clear hcp2 HO12 HT12 HO11 HS11 HT11 HO10 HS10 HT10
   go_wp2
   go_ret
   exact HE.out
  ·have hnc1:n+1≤c:=by omega
   have d2:decide ((c:Int)<(n:Int)+1)=false:=decide_eq_false (by omega)
   obtain ⟨y,hy⟩:=own_moreG h (by omega)
   have HM:=Hi hy
   have hvb:vb≠g:=fun e=>hvo (by rw [e]; rfl)
   obtain ⟨TB,kB,hsb,hkB⟩:∃ TB kB,w.shape? g=some (TB,kB)∧kB≠0:=by
    obtain ⟨-,⟨h2,-⟩ | ⟨g2,cap,cur,hv2,h3,h4,h5,h6,h7,h8⟩⟩:=h
    ·cases h2
    ·cases hv2
     exact ⟨_,_,by unfold World.shape?; rw [h4],by omega⟩
   obtain ⟨TA,hsa⟩:∃ TA,w.shape? vb=some (TA,1):=by
    obtain ⟨T,h2⟩:=hv
    exact ⟨T,by unfold World.shape?; rw [h2]; rfl⟩
   have hov:∀ lb cb,(callFunc 169 #[.slice (some ⟨vb,0,none⟩) 1 1,.slice (some ⟨g,i+1,none⟩) lb cb]).run Tryz.prog w=.ok (.value (.bool false)) w:=fun lb cb=>by
    rw [run_callFunc_extern Tryz.func169 (by kernel_rfl) (by kernel_rfl) (by kernel_rfl) (e:=Extern.SlicesOverlaps.overlaps #[154,154] #[4]) (by kernel_rfl),
     Lib.run_overlaps_apart w 154 4 162 Tryz.underlying154 1 lineR.size ⟨vb,0,none⟩ ⟨g,i+1,none⟩ 1 1 lb cb hvb TA TB 1 kB hsa hsb hkB (hv.free 0) (hv.free 1)]
    rfl
   have hgi2:drA 1 (some ⟨g,0,none⟩) c (i+1)=some ⟨g,i+1,none⟩:=by unfold drA; rw [if_neg (by omega),Option.map_some,Addr.add_mid,Nat.zero_add,Nat.mul_one]
   have hgi:drA 1 (some ⟨g,0,none⟩) c i=some ⟨g,i,none⟩:=by unfold drA; rw [if_neg (by omega),Option.map_some,Addr.add_mid,Nat.zero_add,Nat.mul_one]
   have hin2:i+1≤n+1:=by omega
   have hin1:i≤n+1:=by omega
   have hsy:i+1+(n - i)≤(xs ++ [y]).length:=by rw [List.length_append,hxl,List.length_singleton]; omega
   have hdd:(xs.drop i).length=n - i:=by rw [List.length_drop,hxl]
   clear h hv hi h1 hvo hrd he hlt hcap hsa hsb hkB hy
   go_enter Tryz.func87,Tryz.ntmps87
   go_upto_region 14 with (first | (refine wpList_value (by kernel_rfl) (lineR.take (i:=n+1) rfl rfl rfl hnc1) ?_))
   go_upto_region 15 with (first | (refine wpList_value (by kernel_rfl) (lineR.dropE (i:=i+1) rfl rfl rfl hin2) ?_; rw [hgi2,Nat.add_sub_add_right]) | (rw [hov]; simp only [Result.andThen]; rw [Oper.upon_value]))
   refine wp_region_held_drew (S:=fun _=>True) (by kernel_rfl) trivial (fun hS=>?_)
   have HM15:=Hi (own_belowG HM.out (Below.drew (Below.refl w.heap.size w)))
   have HV15:=Hi (AgAt.kept HV.out (Below.drew (Below.refl w.heap.size w)))
   have HT15:=Hi (Turns.of_below (F:=fun k=>k=g) (Below.drew (Below.refl w.heap.size w)))
   generalize w.drew=wd at *
   have HS15:=Hi (own_1 HM15.out)
   have hcp2:=fun ty=>run_copy_cells (P:=Tryz.prog) wd 154 154 ty 162 g (i+1) (n - i) (c - (i+1)) ⟨g,i,none⟩ (n+1 - i) (c - i) (xs.drop i) Tryz.underlying154 size_lineG (by rw [hdd]; simp only [Nat.min_def]; split <;> omega) (fun j v hj=>by
     rw [Addr.add_mid]
     refine HS15.out (i+j) v ?_
     rw [List.getElem?_drop] at hj
     rw [List.getElem?_append_left (by have:=(List.getElem?_eq_some_iff.1 hj).1; omega)]
     exact hj) (fun j hj=>(own_there HM15.out (i+1) (n - i) hsy j (by omega)).1) (fun j hj=>(own_there HM15.out (i+1) (n - i) hsy j (by omega)).2) (fun v hv=>H1.out v (List.mem_of_mem_drop hv))
   refine tX 0 rfl hS ?_
   refine tX 1 rfl hS ?_
   refine tX 2 rfl hS ?_
   go_simp
   refine tK 3 (v:=.int .i64 ((i+1:Nat):Int)) rfl (fun W hSW=>by rw [Int.natCast_add]; go_simp; exact wraps_i64 _ (by omega) (by omega)) hS ?_
   go_simp
   refine tK 4 (v:=.slice (some ⟨g,i+1,none⟩) (n - i) (c - (i+1))) rfl (fun W hSW=>(lineR.dropE (i:=i+1) rfl rfl rfl hin2).trans (by rw [hgi2,Nat.add_sub_add_right])) hS ?_
   refine tX 5 rfl hS ?_
   refine tX 6 rfl hS ?_
   go_simp
   refine tK 7 (v:=.slice (some ⟨g,i,none⟩) (n+1 - i) (c - i)) rfl (fun W hSW=>(lineR.dropE rfl rfl rfl hin1).trans (by rw [hgi])) hS ?_
   go_simp
   refine rD 8 rfl (fun K hK=>?_)
   refine step_of (by kernel_rfl) ?_
   refine wp_copyG (v:=.slice (some ⟨g,i+1,none⟩) (n - i) (c - (i+1))) (u:=.slice (some ⟨g,i,none⟩) (n+1 - i) (c - i)) rfl rfl rfl (hcp2 _) ?_
   refine hK.out _ _ trivial (fun hS=>?_)
   clear hK K
   refine wpAnyH_done (by kernel_rfl) ?_ _
   go_simp
   have HO16:=Hi (own_setCells (xs.drop i) wd (i+1) HM15.out)
   have ht16:=setCells_turnsG g (xs.drop i) (i+1) wd
   have HT16:=Hi (HT15.out.trans (ht16.mono fun k _ hk=>Or.inl hk))
   have HV16:=Hi (AgAt.block HV15.out (ht16.block _ (AgAt.lt HV15.out) hvb))
   clear ht16 hcp2
   generalize wd.setCells g (i+1) (xs.drop i)=w16 at *
   have hl16:(setL (xs ++ [y]) (i+1) (xs.drop i)).length=n+1:=by rw [setL_length,List.length_append,HXL.out]; rfl
   have hcp3:=fun ty=>run_copy_cells (P:=Tryz.prog) w16 154 154 ty 162 g i (n+1 - i) (c - i) ⟨vb,0,none⟩ 1 1 [ptV lb] Tryz.underlying154 size_lineG (by simp only [List.length_cons,List.length_nil,Nat.min_def]; split <;> omega) (fun j v hj=>by
     rw [Addr.add_mid,Nat.zero_add,AgAt.cell HV16.out]
     simpa using hj) (fun j hj=>(own_there HO16.out.1 i 1 (by rw [hl16]; omega) j (by simpa using hj)).1) (fun j hj=>(own_there HO16.out.1 i 1 (by rw [hl16]; omega) j (by simpa using hj)).2) (fun v hv=>by rw [List.mem_singleton.1 hv]; rfl)
   have HE:=Hi (show Insd (some ⟨g,0,none⟩) n c i xs (ptV lb) w (.returned (.slice (some ⟨g,0,none⟩) (n+1) c)) (w16.setCells g i [ptV lb]) from by
    refine ⟨_,_,rfl,?_,?_,fun j hj=>Or.inl hj⟩
    ·have h5:=(own_setCells [ptV lb] w16 i HO16.out.1).1
     rw [setL_shiftG xs (ptV lb) y i (by rw [HXL.out]; exact hin)] at h5
     exact h5
    ·exact (HT16.out.trans ((setCells_turnsG g [ptV lb] i w16).mono fun k _ hk=>Or.inl hk)).mono fun k _ hk=>by rw [show k=g from hk]; rfl
   )
   clear HO16 HT16 HM15 HS15 HT15 HM
   generalize w16.setCells g i [ptV lb]=w17 at *
   go_wp2_with (first | (refine wpList_value (by kernel_rfl) (lineR.dropE rfl rfl rfl hin1) ?_; rw [hgi]) | (refine wpList_value (by kernel_rfl) (exec_copyG rfl rfl rfl (hcp3 _)) ?_))
   go_ret
   exact HE.out
open Go.RowKit
open Tm (Sp Tr has put cut kids)
theorem rd_oneG (w:World) (v:Value) (T:TypeId):Rd (w.alloc (.cells #[v] T)) (some ⟨w.heap.size,0,none⟩) [v]:=fun _=>⟨_,0,rfl,fun i u hu=>by
 rw [Nat.zero_add,World.cell?_alloc_at _ _ _ _ rfl]
 rw [← hu]
 simp⟩
theorem wp_build_fn {w:World} {o:Oper} {a:Act} {K:Act→World→Prop} {Q:Exit→Act→World→Prop} (x:Operand) (ho:o.op=.buildSlice 155 1 #[(0,x)]) (u:Uk) (hx:a.eval x=Uk.val u)
  (h:K (a.put o.dst (.slice (some ⟨w.heap.size,0,none⟩) 1 1)) (w.alloc (.cells #[Uk.val u] 164))):Oper.wp Tryz.prog o a w K Q:=by
 have hr:(Instr.buildSlice 155 1 #[(0,Uk.val u)]).run Tryz.prog w=.ok (.slice (some ⟨w.heap.size,0,none⟩) 1 1) (w.alloc (.cells #[Uk.val u] 164)):=by
  cases u with
  | pass=>kernel_rfl
  | cr b=>kernel_rfl
  | mv b c s=>kernel_rfl
  | pt b c s=>kernel_rfl
 unfold Oper.wp execOp
 simp only [ho,Sem.run_bind,Sem.run_pure,Result.andThen_ok,List.map_toArray,List.map_cons,List.map_nil,hx,hr]
 exact h
theorem Grf.core' {w:World} {X:Gx} {χ:Nat→Nat} (h:Grf w X χ) {m:Nat} (hm:X.us.length=m):Core w X χ (Gm.run (X.ops.take m)):=by rw [← hm]; exact h.toCore
theorem leaves_congrG {P:Program} {fn:Func} {t t':Array Value} {R:Ending→World→Prop} (h:∀ w,(results fn t).run P w=(results fn t').run P w):∀ (ds:List Deferred) (u:FrameMode) (w:World),Leaves P fn t R ds u w→Leaves P fn t' R ds u w
 | [],.returning,w=>fun ⟨v,h1,h2⟩=>⟨v,(h w).symm.trans h1,h2⟩
 | [],.panicking _,_=>fun h1=>h1
 | [],.run,_=>fun h1=>h1
 | d :: ds,u,w=>fun ⟨h0,fv,cap,f,args,h1,h2,h3⟩=>⟨h0,fv,cap,f,args,h1,h2,h3.mono fun e u' w' he=>by
   cases e with
   | returned v=>exact leaves_congrG h ds _ _ he
   | panicked chain=>exact leaves_congrG h ds _ _ he
   | outgrown=>exact he⟩
theorem hqNow {R:Ending→World→Prop} {v:Value} {d:Option Tmp} (hd:(d != some 2)=true) {c:List PanicEntry} {a:Act} {w:World} (h:bodyPostD Tryz.prog Tryz.f78 R (.panic c) (a.put d v) w):bodyPostD Tryz.prog Tryz.f78 R (.panic c) a w:=by
 cases d with
 | none=>exact h
 | some d =>
  have hne:d≠2:=fun e=>by subst e; cases hd
  refine leaves_congrG (t:=(a.put (some d) v).tmps) (fun W=>?_) _ _ _ h
  have h1:=fun t:Array Value=>results_tmp (fn:=Tryz.f78) (t:=2) rfl t Tryz.prog W
  rw [h1,h1]
  congr 1
  simp [Act.put,Array.getD_eq_getD_getElem?,hne]
def Nowed (X:Gx) (χ:Nat→Nat) (w:World) (e:Ending) (w':World):Prop:=e=.returned (ptV X.b)∧∃ X' χ',Grf w' X' χ'∧Like2 X X'∧X'.us.length=X.ls.length∧Goes w χ w' χ'
theorem now_any {X:Gx} {χ:Nat→Nat} {gg:Nat} (w:World) (h:Grf w X χ) (hk:X.lk=0) (hg:AgAt w gg #[ptV X.b]) :
  Calls Tryz.prog 78 #[ptV gg] w (Nowed X χ w):=by
 have yg:w.cell? ⟨gg,0,none⟩=some (ptV X.b):=(AgAt.cell hg 0).trans rfl
 have y0:w.cell? ⟨X.b,0,none⟩=some (.int .i32 0):=by have:=h.cell 0; rw [this]; show some (Value.int .i32 X.lk)=_; rw [hk]
 have f0:w.frozen? ⟨X.b,0,none⟩=false:=h.free 0
 have HG0:=Hi (h.setLk 1)
 have HS0:=Hi (goes_set h.toCore 0 (.int .i32 1))
 have HK:=Hi hk
 clear h hk hg
 go_enter_defers Tryz.func78,Tryz.ntmps78
 go_wp2_with (go_at_call 157; refine (lock_any X.b _ y0 f0).mono ?_; rintro e w' ⟨rfl,rfl⟩)
 go_loopg [] (X.ls.length+1) (fun gk wr=>∃ X1 χ1,Grf wr X1 χ1∧Like2 { X with lk:=1 } X1∧Goes w χ wr χ1∧X.ls.length - X1.us.length<gk)
 case atStart=>exact ⟨_,χ,HG0.out,Like2.refl _,HS0.out,by omega⟩
 case round =>
  clear HG0 HS0 yg y0 f0
  obtain ⟨X1,χ1,hG,hL,hgo,hlt⟩:=hrel
  obtain ⟨g1,rfl⟩:∃ g1,gk=g1+1:=⟨gk - 1,by omega⟩
  have HL:=Hi hL
  have HGO:=Hi (And.intro hgo hlt)
  obtain ⟨m,hm⟩:∃ m,X1.us.length=m:=⟨_,rfl⟩
  obtain ⟨no,hno⟩:∃ no,no=X1.ls.length:=⟨_,rfl⟩
  obtain ⟨po,co,hpo,hpo0⟩:=own_sliceG hG.ro
  obtain ⟨pu,cu,hpu,-⟩:=own_sliceG hG.ru
  rw [← hno] at hpo hpo0
  rw [hm] at hpu
  have hb:X1.b=X.b:=hL.b
  have hfew:m≤no∧no≤80:=by rw [← hm,hno]; exact ⟨hG.fewer,hG.few⟩
  have HPO:=Hi hpo
  have HPU:=Hi hpu
  have HM:=Hi hm
  have HNO:=Hi hno
  have HBB:=Hi hb
  have HFEW:=Hi hfew
  have HLL:=Hi (show X1.ls.length=X.ls.length from congrArg List.length hL.ls)
  have hS0:wr.drew.cell? ⟨X.b,2,none⟩=some (.slice po no co)∧wr.drew.cell? ⟨X.b,3,none⟩=some (.slice pu m cu):=by
   have hG2:=hG.kept (Below.drew (Below.refl wr.heap.size wr))
   rw [← hb,← hpo,← hpu]
   exact ⟨hG2.cO,hG2.cU⟩
  have HS0:=Hi hS0
  have HG:=Hi hG
  clear hG hL hgo hlt hm hno hpo hpu hb hS0
  go_upto_region 4 with fail
  refine wp_region_held_drew (S:=fun W=>W.cell? ⟨X.b,2,none⟩=some (.slice po no co)∧W.cell? ⟨X.b,3,none⟩=some (.slice pu m cu)) (by kernel_rfl) HS0.out (fun hS=>?_)
  replace HG:=Hi (HG.out.kept (Below.drew (Below.refl wr.heap.size wr)))
  replace HGO:=Hi (And.intro (HGO.out.1.trans (Goes.of_below (Below.drew (Below.refl wr.heap.size wr)))) HGO.out.2)
  generalize wr.drew=wd at *
  refine wpAnyH_take (i:=0) (v:=?_) rfl (by kernel_rfl) (by kernel_rfl) (by kernel_rfl) (fun _ _ _ h=>hqNow (by kernel_rfl) h) (Or.inl ⟨by kernel_rfl,?_⟩) hS ?_
  rotate_left
  ·intro W hSW
   go_simp
   all_goals with_reducible rfl
  refine wpAnyH_take (i:=1) (v:=?_) rfl (by kernel_rfl) (by kernel_rfl) (by kernel_rfl) (fun _ _ _ h=>hqNow (by kernel_rfl) h) (Or.inl ⟨by kernel_rfl,?_⟩) hS ?_
  rotate_left
  ·intro W hSW
   go_simp
   all_goals with_reducible rfl
  refine wpAnyH_take (i:=2) (v:=?_) rfl (by kernel_rfl) (by kernel_rfl) (by kernel_rfl) (fun _ _ _ h=>hqNow (by kernel_rfl) h) (Or.inl ⟨by kernel_rfl,?_⟩) hS ?_
  rotate_left
  ·intro W hSW
   go_simp
   all_goals with_reducible rfl
  refine wpAnyH_take (i:=3) (v:=?_) rfl (by kernel_rfl) (by kernel_rfl) (by kernel_rfl) (fun _ _ _ h=>hqNow (by kernel_rfl) h) (Or.inl ⟨by kernel_rfl,?_⟩) hS ?_
  rotate_left
  ·intro W hSW
   have y:=hSW.2
   go_simp
   all_goals with_reducible rfl
  go_simp
  refine wpAnyH_take (i:=4) (v:=?_) rfl (by kernel_rfl) (by kernel_rfl) (by kernel_rfl) (fun _ _ _ h=>hqNow (by kernel_rfl) h) (Or.inl ⟨by kernel_rfl,?_⟩) hS ?_
  rotate_left
  ·intro W hSW
   go_simp
   all_goals with_reducible rfl
  refine wpAnyH_take (i:=5) (v:=?_) rfl (by kernel_rfl) (by kernel_rfl) (by kernel_rfl) (fun _ _ _ h=>hqNow (by kernel_rfl) h) (Or.inl ⟨by kernel_rfl,?_⟩) hS ?_
  rotate_left
  ·intro W hSW
   go_simp
   all_goals with_reducible rfl
  refine wpAnyH_take (i:=6) (v:=?_) rfl (by kernel_rfl) (by kernel_rfl) (by kernel_rfl) (fun _ _ _ h=>hqNow (by kernel_rfl) h) (Or.inl ⟨by kernel_rfl,?_⟩) hS ?_
  rotate_left
  ·intro W hSW
   go_simp
   all_goals with_reducible rfl
  refine wpAnyH_take (i:=7) (v:=?_) rfl (by kernel_rfl) (by kernel_rfl) (by kernel_rfl) (fun _ _ _ h=>hqNow (by kernel_rfl) h) (Or.inl ⟨by kernel_rfl,?_⟩) hS ?_
  rotate_left
  ·intro W hSW
   go_simp
   all_goals with_reducible rfl
  go_simp
  refine wpAnyH_take (i:=8) (v:=?_) rfl (by kernel_rfl) (by kernel_rfl) (by kernel_rfl) (fun _ _ _ h=>hqNow (by kernel_rfl) h) (Or.inl ⟨by kernel_rfl,?_⟩) hS ?_
  rotate_left
  ·intro W hSW
   have y:=hSW.1
   go_simp
   all_goals with_reducible rfl
  refine wpAnyH_take (i:=9) (v:=?_) rfl (by kernel_rfl) (by kernel_rfl) (by kernel_rfl) (fun _ _ _ h=>hqNow (by kernel_rfl) h) (Or.inl ⟨by kernel_rfl,?_⟩) hS ?_
  rotate_left
  ·intro W hSW
   go_simp
   all_goals with_reducible rfl
  refine wpAnyH_take (i:=10) (v:=?_) rfl (by kernel_rfl) (by kernel_rfl) (by kernel_rfl) (fun _ _ _ h=>hqNow (by kernel_rfl) h) (Or.inl ⟨by kernel_rfl,?_⟩) hS ?_
  rotate_left
  ·intro W hSW
   go_simp
   all_goals with_reducible rfl
  go_simp
  refine wpAnyH_done (by kernel_rfl) ?_ _
  go_simp
  clear hS
  by_cases hlt:m<no
  ·have d0:decide (m<no)=true:=decide_eq_true hlt
   obtain ⟨gb,hgb⟩:=hpo0 (by omega)
   subst hgb
   obtain ⟨el,hel⟩:∃ e,X1.ls[m]?=some e:=⟨_,List.getElem?_eq_getElem (by rw [← HNO.out]; exact hlt)⟩
   obtain ⟨x,lb⟩:=el
   have HLE:=Hi hel
   have hmem:=List.mem_of_getElem? hel
   have HX:=Hi (show X1.ops[m]?=some x from by unfold Gx.ops; rw [List.getElem?_map,hel]; rfl)
   have hxo:=HG.out.ops.ok x (List.mem_of_getElem? HX.out)
   have hm60:m<80:=by omega
   clear hel hpo0 hfew
   go_upto_region 5 with fail
   replace HG:=Hi (HG.out.kept (Below.drew (Below.refl wd.heap.size wd)))
   replace HGO:=Hi (And.intro (HGO.out.1.trans (Goes.of_below (Below.drew (Below.refl wd.heap.size wd)))) HGO.out.2)
   have HTRY:=Hi (show Calls Tryz.prog 159 #[ptV X.b,ptV lb] wd.drew (Tried X1 χ1 (Gm.run (X1.ops.take m)) x wd.drew) from by
    have h1:=try_any x wd.drew (HG.out.core' HM.out) (HG.out.ln _ hmem).2 (HG.out.ln _ hmem).1 hxo (ops_newG HG.out.ops HX.out) ⟨_,hmem,rfl⟩
    rwa [HBB.out] at h1)
   have HRU:=Hi (fun (w5:World) (X5:Gx) (χ5:Nat→Nat) (wa:World) (hc:Core w5 X5 χ5 (Gm.aft (Gm.run (X1.ops.take m)) x)) (hl:Like X1 X5) (hba:Below w5.heap.size w5 wa)=>show wa.ownsRow 0 164 1 (.slice pu m cu) m (X1.us.map Uk.val) from by
    have h1:=own_belowG hc.ru hba
    rw [hl.pu,hl.us,HPU.out,HM.out] at h1
    exact h1)
   have hS1:wd.drew.cell? ⟨X.b,2,none⟩=some (.slice (some ⟨gb,0,none⟩) no co)∧wd.drew.cell? ⟨X.b,3,none⟩=some (.slice pu m cu)∧wd.drew.cell? ⟨gb,m,none⟩=some (ptV lb):=by
    refine ⟨?_,?_,?_⟩
    ·rw [← HBB.out,← HPO.out]; exact HG.out.cO
    ·rw [← HBB.out,← HPU.out]; exact HG.out.cU
    ·have h1:=HG.out.ro
     rw [HPO.out,← HNO.out] at h1
     exact own_1 h1 m _ (by rw [List.getElem?_map,HLE.out]; rfl)
   have HS1:=Hi hS1
   clear hS1 hmem hxo
   refine wp_region_last_drew 22 (S:=fun W=>W.cell? ⟨X.b,2,none⟩=some (.slice (some ⟨gb,0,none⟩) no co)∧W.cell? ⟨X.b,3,none⟩=some (.slice pu m cu)∧W.cell? ⟨gb,m,none⟩=some (ptV lb)) (by kernel_rfl) HS1.out (fun hS=>?_)
   generalize wd.drew=we at *
   refine wpAnyL_take (i:=0) (v:=?_) rfl (by kernel_rfl) (by kernel_rfl) (by kernel_rfl) (fun _ _ _ h=>hqNow (by kernel_rfl) h) (Or.inl ⟨by kernel_rfl,?_⟩) hS (by kernel_rfl) ?_
   rotate_left
   ·intro W hSW
    go_simp
    all_goals with_reducible rfl
   refine wpAnyL_take (i:=1) (v:=?_) rfl (by kernel_rfl) (by kernel_rfl) (by kernel_rfl) (fun _ _ _ h=>hqNow (by kernel_rfl) h) (Or.inl ⟨by kernel_rfl,?_⟩) hS (by kernel_rfl) ?_
   rotate_left
   ·intro W hSW
    go_simp
    all_goals with_reducible rfl
   refine wpAnyL_take (i:=2) (v:=?_) rfl (by kernel_rfl) (by kernel_rfl) (by kernel_rfl) (fun _ _ _ h=>hqNow (by kernel_rfl) h) (Or.inl ⟨by kernel_rfl,?_⟩) hS (by kernel_rfl) ?_
   rotate_left
   ·intro W hSW
    go_simp
    all_goals with_reducible rfl
   refine wpAnyL_take (i:=3) (v:=?_) rfl (by kernel_rfl) (by kernel_rfl) (by kernel_rfl) (fun _ _ _ h=>hqNow (by kernel_rfl) h) (Or.inl ⟨by kernel_rfl,?_⟩) hS (by kernel_rfl) ?_
   rotate_left
   ·intro W hSW
    go_simp
    all_goals with_reducible rfl
   go_simp
   refine wpAnyL_take (i:=4) (v:=?_) rfl (by kernel_rfl) (by kernel_rfl) (by kernel_rfl) (fun _ _ _ h=>hqNow (by kernel_rfl) h) (Or.inl ⟨by kernel_rfl,?_⟩) hS (by kernel_rfl) ?_
   rotate_left
   ·intro W hSW
    have y:=hSW.2.1
    go_simp
    all_goals with_reducible rfl
   refine wpAnyL_take (i:=5) (v:=?_) rfl (by kernel_rfl) (by kernel_rfl) (by kernel_rfl) (fun _ _ _ h=>hqNow (by kernel_rfl) h) (Or.inl ⟨by kernel_rfl,?_⟩) hS (by kernel_rfl) ?_
   rotate_left
   ·intro W hSW
    go_simp
    all_goals with_reducible rfl
   refine wpAnyL_take (i:=6) (v:=?_) rfl (by kernel_rfl) (by kernel_rfl) (by kernel_rfl) (fun _ _ _ h=>hqNow (by kernel_rfl) h) (Or.inl ⟨by kernel_rfl,?_⟩) hS (by kernel_rfl) ?_
   rotate_left
   ·intro W hSW
    go_simp
    all_goals with_reducible rfl
   refine wpAnyL_take (i:=7) (v:=?_) rfl (by kernel_rfl) (by kernel_rfl) (by kernel_rfl) (fun _ _ _ h=>hqNow (by kernel_rfl) h) (Or.inl ⟨by kernel_rfl,?_⟩) hS (by kernel_rfl) ?_
   rotate_left
   ·intro W hSW
    go_simp
    all_goals with_reducible rfl
   go_simp
   refine wpAnyL_take (i:=8) (v:=?_) rfl (by kernel_rfl) (by kernel_rfl) (by kernel_rfl) (fun _ _ _ h=>hqNow (by kernel_rfl) h) (Or.inl ⟨by kernel_rfl,?_⟩) hS (by kernel_rfl) ?_
   rotate_left
   ·intro W hSW
    go_simp
    all_goals with_reducible rfl
   refine wpAnyL_take (i:=9) (v:=?_) rfl (by kernel_rfl) (by kernel_rfl) (by kernel_rfl) (fun _ _ _ h=>hqNow (by kernel_rfl) h) (Or.inl ⟨by kernel_rfl,?_⟩) hS (by kernel_rfl) ?_
   rotate_left
   ·intro W hSW
    have y:=hSW.1
    go_simp
    all_goals with_reducible rfl
   refine wpAnyL_take (i:=10) (v:=?_) rfl (by kernel_rfl) (by kernel_rfl) (by kernel_rfl) (fun _ _ _ h=>hqNow (by kernel_rfl) h) (Or.inl ⟨by kernel_rfl,?_⟩) hS (by kernel_rfl) ?_
   rotate_left
   ·intro W hSW
    go_simp
    all_goals with_reducible rfl
   refine wpAnyL_take (i:=11) (v:=?_) rfl (by kernel_rfl) (by kernel_rfl) (by kernel_rfl) (fun _ _ _ h=>hqNow (by kernel_rfl) h) (Or.inl ⟨by kernel_rfl,?_⟩) hS (by kernel_rfl) ?_
   rotate_left
   ·intro W hSW
    go_simp
    all_goals with_reducible rfl
   go_simp
   refine wpAnyL_take (i:=12) (v:=?_) rfl (by kernel_rfl) (by kernel_rfl) (by kernel_rfl) (fun _ _ _ h=>hqNow (by kernel_rfl) h) (Or.inl ⟨by kernel_rfl,?_⟩) hS (by kernel_rfl) ?_
   rotate_left
   ·intro W hSW
    go_simp
    all_goals with_reducible rfl
   refine wpAnyL_take (i:=13) (v:=?_) rfl (by kernel_rfl) (by kernel_rfl) (by kernel_rfl) (fun _ _ _ h=>hqNow (by kernel_rfl) h) (Or.inl ⟨by kernel_rfl,?_⟩) hS (by kernel_rfl) ?_
   rotate_left
   ·intro W hSW
    have y:=hSW.2.1
    go_simp
    all_goals with_reducible rfl
   refine wpAnyL_take (i:=14) (v:=?_) rfl (by kernel_rfl) (by kernel_rfl) (by kernel_rfl) (fun _ _ _ h=>hqNow (by kernel_rfl) h) (Or.inl ⟨by kernel_rfl,?_⟩) hS (by kernel_rfl) ?_
   rotate_left
   ·intro W hSW
    go_simp
    all_goals with_reducible rfl
   refine wpAnyL_take (i:=15) (v:=?_) rfl (by kernel_rfl) (by kernel_rfl) (by kernel_rfl) (fun _ _ _ h=>hqNow (by kernel_rfl) h) (Or.inl ⟨by kernel_rfl,?_⟩) hS (by kernel_rfl) ?_
   rotate_left
   ·intro W hSW
    go_simp
    all_goals with_reducible rfl
   go_simp
   refine wpAnyL_take (i:=16) (v:=?_) rfl (by kernel_rfl) (by kernel_rfl) (by kernel_rfl) (fun _ _ _ h=>hqNow (by kernel_rfl) h) (Or.inl ⟨by kernel_rfl,?_⟩) hS (by kernel_rfl) ?_
   rotate_left
   ·intro W hSW
    have y:=hSW.2.2
    go_simp
    all_goals with_reducible rfl
   go_simp
   refine wpAnyL_ready (rs:=[17]) (by kernel_rfl) (by simp) ?_
   refine AllReadyL.cons rfl (fun K hK=>?_) AllReadyL.nil
   go_simp
   go_wp2_with (go_at_call 159; refine HTRY.out.mono ?_; rintro e w5 ⟨u,X5,χ5,rfl,hc5,hl5,hg5,hu5⟩)
   have HT5:=Hi (And.intro hc5 (And.intro hl5 (And.intro hg5 hu5)))
   have HS5:=Hi (show w5.cell? ⟨X.b,2,none⟩=some (.slice (some ⟨gb,0,none⟩) no co)∧w5.cell? ⟨X.b,3,none⟩=some (.slice pu m cu) from by
    have h1:=hc5.cO
    have h2:=hc5.cU
    rw [hl5.b,HBB.out] at h1 h2
    rw [hl5.po,HPO.out] at h1
    rw [hl5.pu,HPU.out] at h2
    exact ⟨h1,h2⟩)
   have HLN5:=Hi (show w5.cell? ⟨gb,m,none⟩=some (ptV lb) from by
    have h1:=hc5.ro
    rw [hl5.po,HPO.out,hl5.ls,← HNO.out] at h1
    exact own_1 h1 m _ (by rw [List.getElem?_map,HLE.out]; rfl))
   refine hK.out _ _ ⟨HS5.out.1,HS5.out.2,HLN5.out⟩ (fun hS=>?_)
   clear hK K hc5 hl5 hg5 hu5
   refine wpAnyL_ready (rs:=[18]) (by kernel_rfl) (by simp) ?_
   refine AllReadyL.cons rfl (fun K hK=>?_) AllReadyL.nil
   refine step_of (by kernel_rfl) ?_
   refine wp_build_fn _ rfl u rfl ?_
   have hba:=(Below.refl w5.heap.size w5).alloc (Nat.le_refl _) (.cells #[Uk.val u] 164)
   have HBA:=Hi hba
   have HRA:=Hi (show Rd (w5.alloc (.cells #[Uk.val u] 164)) (some ⟨w5.heap.size,0,none⟩) [Uk.val u] from rd_oneG w5 _ _)
   have HZA:=Hi (show w5.heap.size<(w5.alloc (.cells #[Uk.val u] 164)).heap.size from by simp)
   refine hK.out _ _ ⟨by rw [Below.cell hba (cell_lt hS.1)]; exact hS.1,by rw [Below.cell hba (cell_lt hS.2.1)]; exact hS.2.1,by rw [Below.cell hba (cell_lt hS.2.2)]; exact hS.2.2⟩ (fun hS=>?_)
   clear hK K hba
   generalize w5.alloc (.cells #[Uk.val u] 164)=wa at *
   refine wpAnyL_ready (rs:=[19]) (by kernel_rfl) (by simp) ?_
   refine AllReadyL.cons rfl (fun K hK=>?_) AllReadyL.nil
   refine fnR.append rfl _ _ rfl (.slice pu m cu) m (X1.us.map Uk.val) rfl (HRU.out w5 X5 χ5 wa HT5.out.1 HT5.out.2.1 HBA.out) (some ⟨w5.heap.size,0,none⟩) 1 1 [Uk.val u] rfl rfl HRA.out (fun h=>by cases h) (fun v hv=>by rw [List.mem_singleton.1 hv]; exact Uk.one u) (by omega) ?_
   intro p6 c6 w6 ho6 hg6 hn6
   have HP6:=Hi (HG.out.push HM.out HX.out HT5.out.1 HT5.out.2.1 HT5.out.2.2.1 HT5.out.2.2.2 HBA.out ho6 (by rw [HPU.out]; exact hg6) (by rw [HPU.out]; exact hn6))
   have HT6:=Hi (Turns.of_grown hg6)
   have HNB:=Hi (show (Value.slice pu m cu).ownBlock≠some X.b∧(Value.slice pu m cu).ownBlock≠some gb from by
    have h0:∀ k,(Value.slice pu m cu).ownBlock=some k→χ5 k=3:=fun k hk=>HT5.out.1.cu k (by rw [HT5.out.2.1.pu,HPU.out]; exact hk)
    constructor
    ·intro e
     have h1:=h0 _ e
     rw [← HBB.out,← HT5.out.2.1.b,HT5.out.1.cb] at h1
     cases h1
    ·intro e
     have h1:=h0 _ e
     rw [HT5.out.1.co gb (by rw [HT5.out.2.1.po,HPO.out]; rfl)] at h1
     cases h1)
   refine hK.out _ _ ⟨HT6.out.cell hS.1 HNB.out.1,HT6.out.cell hS.2.1 HNB.out.1,HT6.out.cell hS.2.2 HNB.out.2⟩ (fun hS=>?_)
   have y6:=hS.2.1
   have f6:w6.frozen? ⟨X.b,3,none⟩=false:=by
    have h1:=HT5.out.1.at_
    rw [HT5.out.2.1.b,HBB.out] at h1
    exact AgAt.free (AgAt.block (AgAt.kept h1 HBA.out) (HT6.out.block _ (AgAt.lt (AgAt.kept h1 HBA.out)) HNB.out.1)) 3
   clear hK K ho6 hg6 hn6
   refine wpAnyL_ready (rs:=[20]) (by kernel_rfl) (by simp) ?_
   refine AllReadyL.cons rfl (fun K hK=>?_) AllReadyL.nil
   go_simp
   refine hK.out _ _ hS (fun hS=>?_)
   clear hK K
   refine wpAnyL_take (i:=21) (v:=?_) rfl (by kernel_rfl) (by kernel_rfl) (by kernel_rfl) (fun _ _ _ h=>hqNow (by kernel_rfl) h) (Or.inl ⟨by kernel_rfl,?_⟩) hS (by kernel_rfl) ?_
   rotate_left
   ·intro W hSW
    go_simp
    all_goals with_reducible rfl
   go_simp
   refine wpAnyL_ready (rs:=[22]) (by kernel_rfl) (by simp) ?_
   refine AllReadyL.last rfl (fun K hK=>?_)
   go_simp
   refine hK.out _ _ ?_
   clear hK K hS y6 f6
   refine wpAnyL_done (by kernel_rfl) ?_ _
   go_simp
   obtain ⟨X7,χ7,hg7,hl7,hu7,hgo7⟩:=HP6.out
   rw [HBB.out] at hg7 hgo7
   have HN:=Hi (show ∃ X1 χ1,Grf (w6.setCell ⟨X.b,3,none⟩ (.slice p6 (m+1) c6)) X1 χ1∧Like2 { X with lk:=1 } X1∧Goes w χ (w6.setCell ⟨X.b,3,none⟩ (.slice p6 (m+1) c6)) χ1∧X.ls.length - X1.us.length<g1 from
    ⟨X7,χ7,hg7,HL.out.trans hl7,HGO.out.1.trans hgo7,by
     have h1:=HGO.out.2
     have h2:=HM.out
     have h3:=HLL.out
     have h4:=HNO.out
     rw [hu7,List.length_append]
     simp only [List.length_cons,List.length_nil]
     omega⟩)
   clear hg7 hl7 hu7 hgo7 HP6 HG HT5
   go_wp2
   go_roundg g1
   case rel=>exact HN.out
   case measure=>omega
  ·have hme:m=no:=by omega
   have d0:decide (m<no)=false:=decide_eq_false hlt
   have y0:wd.cell? ⟨X.b,0,none⟩=some (.int .i32 1):=by
    have h1:=HG.out.cell 0
    rw [HBB.out] at h1
    rw [h1]
    show some (Value.int .i32 X1.lk)=_
    rw [HL.out.lk]
   have f0:wd.frozen? ⟨X.b,0,none⟩=false:=by rw [← HBB.out]; exact HG.out.free 0
   have HE:=Hi (show Nowed X χ w (.returned (ptV X.b)) (wd.setCell ⟨X.b,0,none⟩ (.int .i32 0)) from by
    have h1:=HG.out.setLk 0
    have h2:=goes_set HG.out.toCore 0 (.int .i32 0)
    rw [show (⟨X1.b,0,none⟩:Addr)=⟨X.b,0,none⟩ from by rw [HBB.out]] at h1 h2
    refine ⟨rfl,_,_,h1,⟨HK.out.symm,HBB.out,HL.out.po,HL.out.ls⟩,?_,HGO.out.1.trans h2⟩
    show X1.us.length=X.ls.length
    rw [HM.out,hme,HNO.out,HLL.out])
   clear HG HL HGO hlt
   go_wp2_with fail
   refine leaves_cons (f:=158) (args:=#[ptV X.b]) (by simp) (by simp [go_sem]) ?_
   refine (unlock_any X.b .returning _ y0 f0).mono ?_
   rintro e u' w'' ⟨rfl,rfl,rfl⟩
   refine ⟨_,results_tmp (t:=2) rfl _ _ _,?_⟩
   exact HE.out
open Go.RowKit
open Tm (Sp Tr has put cut kids)
structure Gra (w:World) (gg:Nat) (ops:List Pm.Wr) (χ:Nat→Nat):Prop where
 box:∃ X,AgAt w gg #[ptV X.b]∧Grf w X χ∧X.lk=0∧X.ops=ops
 gz:χ gg=0∨χ gg=6
theorem Gra.turns {w w':World} {gg:Nat} {ops:List Pm.Wr} {χ:Nat→Nat} {G:Nat→Prop} (h:Gra w gg ops χ) (ht:Turns G w w') (hd:∀ k,χ k≠0→¬ G k) (hg:¬ G gg):Gra w' gg ops χ:=by
 obtain ⟨⟨X,h1,h2,h3,h4⟩,h5⟩:=h
 exact ⟨⟨X,h1.block (ht.block _ (AgAt.lt h1) hg),h2.turns ht hd,h3,h4⟩,h5⟩
theorem Gra.kept {w w':World} {gg:Nat} {ops:List Pm.Wr} {χ:Nat→Nat} (h:Gra w gg ops χ) (hb:Below w.heap.size w w'):Gra w' gg ops χ:=h.turns (Turns.of_below (F:=fun _=>False) hb) (fun _ _ h=>h) fun h=>h
theorem Gra.lt {w:World} {gg:Nat} {ops:List Pm.Wr} {χ:Nat→Nat} (h:Gra w gg ops χ):gg<w.heap.size:=by
 obtain ⟨⟨X,h1,-⟩,-⟩:=h
 exact AgAt.lt h1
theorem Gra.few {w:World} {gg:Nat} {ops:List Pm.Wr} {χ:Nat→Nat} (h:Gra w gg ops χ):Gm.Ops ops∧ops.length≤80:=by
 obtain ⟨⟨X,h1,h2,h3,rfl⟩,-⟩:=h
 exact ⟨h2.ops,by unfold Gx.ops; rw [List.length_map]; exact h2.few⟩
theorem Gra.lts {w:World} {gg:Nat} {ops:List Pm.Wr} {χ:Nat→Nat} (h:Gra w gg ops χ) {k:Nat} (hk:χ k≠0):k<w.heap.size:=by
 obtain ⟨⟨X,h1,h2,-⟩,-⟩:=h
 exact h2.lt k hk
def Full (X:Gx):Prop:=X.us.length=X.ls.length
theorem Grf.full {w:World} {X:Gx} {χ:Nat→Nat} (h:Grf w X χ) (hf:Full X):Core w X χ (Gm.run X.ops):=by
 have h1:=h.toCore
 rw [hf,List.take_of_length_le (by unfold Gx.ops; rw [List.length_map]; exact Nat.le_refl _)] at h1
 exact h1
theorem like_ops {X X':Gx} (h:Like2 X X'):X'.ops=X.ops:=by unfold Gx.ops; rw [h.ls]
theorem gours_any {b gg:Nat} (w:World) (h:AgAt w gg #[ptV b]):Calls Tryz.prog 77 #[ptV gg] w fun e w'=>e=.returned (.bool true)∧w=w':=by
 have y:w.cell? ⟨gg,0,none⟩=some (ptV b):=(AgAt.cell h 0).trans rfl
 clear h
 go_enter Tryz.func77,Tryz.ntmps77
 go_wp2
 go_ret
 exact ⟨rfl,rfl⟩
theorem gnow_any {gg:Nat} {ops:List Pm.Wr} {χ:Nat→Nat} (w:World) (h:Gra w gg ops χ) :
  Calls Tryz.prog 78 #[ptV gg] w fun e w'=>∃ X χ',e=.returned (ptV X.b)∧Grf w' X χ'∧Full X∧X.lk=0∧X.ops=ops∧AgAt w' gg #[ptV X.b]∧χ' gg=χ gg∧Goes w χ w' χ':=by
 obtain ⟨⟨X,h1,h2,h3,h4⟩,h5⟩:=h
 refine (now_any w h2 h3 h1).mono ?_
 rintro e w' ⟨rfl,X',χ',k1,k2,k3,k4⟩
 refine ⟨X',χ',by rw [k2.b],k1,?_,by rw [k2.lk,h3],(like_ops k2).trans h4,?_,k4.keep _ (AgAt.lt h1),k4⟩
 ·unfold Full; rw [k3,k2.ls]
 ·rw [k2.b]
  exact h1.block (k4.turns.block _ (AgAt.lt h1) (by rcases h5 with h5 | h5 <;> rw [h5] <;> decide))
theorem gra_of {w:World} {gg:Nat} {X:Gx} {χ:Nat→Nat} (h:Grf w X χ) (hl:X.lk=0) (hg:AgAt w gg #[ptV X.b]) (hz:χ gg=0∨χ gg=6):Gra w gg X.ops χ:=⟨⟨X,hg,h,hl,rfl⟩,hz⟩
def Found (ops:List Pm.Wr) (s:Qm.St) (n:Nat) (b:Bool):Prop:=n≤ops.length∧(b=false→Gm.Spot ops s n∧Gm.there ops s=false)∧(b=true→∃ x,ops[n]?=some x∧x.s=s)
theorem rising_stamps {ops:List Pm.Wr} (h:Gm.Ops ops):Qm.Rising (ops.map fun x=>x.s):=by
 unfold Qm.Rising
 rw [List.pairwise_map]
 exact h.up
theorem found_of {ops:List Pm.Wr} {s:Qm.St} {n:Nat} {b:Bool} (ho:Gm.Ops ops) (h:Placed (ops.map fun x=>x.s) s n b):Found ops s n b:=by
 obtain ⟨h1,h2,h3,h4⟩:=h
 rw [List.length_map] at h1 h3 h4
 have hst:∀ i (hi:i<ops.length),Qm.stOf (ops.map fun x=>x.s) i=ops[i].s:=fun i hi=>by rw [Qm.stOf_lt (by rw [List.length_map]; exact hi),List.getElem_map]
 refine ⟨h1,fun hb=>?_,fun hb=>?_⟩
 ·have hne:¬ (n<ops.length∧Qm.stOf (ops.map fun x=>x.s) n=s):=by rw [hb] at h4; exact of_decide_eq_false h4.symm
  have hlo:∀ x ∈ ops.take n,Qm.ltS x.s s:=fun x hx=>by
   obtain ⟨i,hi,rfl⟩:=List.mem_take_iff_getElem.1 hx
   have h5:=h2 i (by omega)
   rwa [hst i (by omega)] at h5
  have hhi:∀ x ∈ ops.drop n,Qm.ltS s x.s:=fun x hx=>by
   obtain ⟨i,hi,rfl⟩:=List.mem_drop_iff_getElem.1 hx
   have hn:n<ops.length:=by omega
   have h6:Qm.ltS s ops[n].s:=by
    rcases Qm.ltS_tri ops[n].s s with h | h | h
    ·exact absurd (by rw [hst n hn]; exact h) (h3 hn)
    ·exact absurd ⟨hn,(hst n hn).trans h⟩ hne
    ·exact h
   by_cases e:i=0
   ·subst e; exact h6
   ·exact Qm.ltS_trans h6 ((List.pairwise_iff_getElem.1 ho.up) n (n+i) hn (by omega) (by omega))
  refine ⟨⟨h1,hlo,hhi⟩,?_⟩
  cases e:Gm.there ops s with
  | false=>rfl
  | true =>
   obtain ⟨x,hx,hs⟩:=Gm.there_iff.1 e
   rw [← List.take_append_drop n ops] at hx
   rcases List.mem_append.1 hx with hx | hx
   ·have:=hlo x hx; rw [hs] at this; exact absurd this (Qm.ltS_irrefl _)
   ·have:=hhi x hx; rw [hs] at this; exact absurd this (Qm.ltS_irrefl _)
 ·rw [hb] at h4
  obtain ⟨k1,k2⟩:=of_decide_eq_true h4.symm
  exact ⟨ops[n],List.getElem?_eq_getElem k1,by rw [← hst n k1]; exact k2⟩
theorem find_any {X:Gx} {χ:Nat→Nat} {g:Gm.G} (s:Qm.St) (w:World) (h:Core w X χ g) :
  Calls Tryz.prog 85 #[ptV X.b,snV s] w fun e w'=>∃ n b,e=.returned (intB n b)∧Found X.ops s n b∧Below w.heap.size w w':=by
 have hb:=(Below.refl w.heap.size w).alloc (Nat.le_refl _) (.cells (stA s) 35)
 have HC:=Hi (h.kept hb)
 have HN:=Hi (AgAt.new w (stA s) 35)
 have HB:=Hi hb
 obtain ⟨po,co,hpo,-⟩:=own_sliceG h.ro
 have HPO:=Hi hpo
 have HSE:=Hi (fun (W:World) (hc:Core W X χ g)=>show Calls Tryz.prog 166 #[.slice po X.ls.length co,snV s,.func (.func 167) #[] #[]] W (Searched (X.ops.map fun x=>x.s) s W) from by
  have h1:=lsearch_any po co X.ls (X.ops.map fun x=>x.s) s.1 s.2 W (by unfold Gx.ops; rw [List.map_map]; rfl) ⟨by
   have h2:=hc.ro
   rw [HPO.out] at h2
   obtain ⟨p2,c2,hv,hrd,-⟩:=own_rd h2
   cases hv
   exact hrd,fun e he=>(hc.ln e he).2⟩ (rising_stamps hc.ops) (by unfold Gx.ops; rw [List.length_map,List.length_map]; have:=hc.few; omega)
  rw [show (X.ops.map fun x=>x.s).length=X.ls.length from by unfold Gx.ops; rw [List.length_map,List.length_map]] at h1
  exact h1)
 clear h hb hpo
 go_enter Tryz.func85,Tryz.ntmps85
 go_upto_region 1 with fail
 generalize w.alloc (.cells (stA s) 35)=w1 at *
 have hbd:=Below.drew (Below.refl w1.heap.size w1)
 replace HC:=Hi (HC.out.kept hbd)
 replace HN:=Hi (AgAt.kept HN.out hbd)
 replace HB:=Hi (HB.out.trans (hbd.mono HB.out.size))
 clear hbd
 refine wp_region_held_drew (S:=fun W=>Below w1.drew.heap.size w1.drew W) (by kernel_rfl) (Below.refl _ _) (fun hS=>?_)
 generalize w1.drew=wd at *
 refine tX 0 rfl hS ?_
 refine tX 1 rfl hS ?_
 refine tX 2 rfl hS ?_
 refine tK 3 (v:=?_) rfl ?_ hS ?_
 rotate_left
 ·intro W hSW
  have y:=(HC.out.kept hSW).cO
  rw [HPO.out] at y
  go_simp
  all_goals with_reducible rfl
 go_simp
 refine tK 4 (v:=snV s) rfl (fun W hSW=>exec_load_ag stT rfl rfl rfl (AgAt.kept HN.out hSW)) hS ?_
 go_simp
 refine rD 5 rfl (fun K hK=>?_)
 go_simp
 go_wp2_with (go_at_call 166; refine (HSE.out _ (HC.out.kept hS)).mono ?_; rintro e w5 ⟨n,b,rfl,hp5,hb5⟩)
 have HF:=Hi (found_of HC.out.ops hp5)
 refine hK.out _ _ (hS.trans (hb5.mono hS.size)) (fun hS=>?_)
 clear hK K hp5 hb5
 unfold intB
 refine tX 6 rfl hS ?_
 refine tX 7 rfl hS ?_
 refine tX 8 rfl hS ?_
 refine tX 9 rfl hS ?_
 go_simp
 refine wpAnyH_done (by kernel_rfl) ?_ _
 go_simp
 have HE:=Hi (show ∃ n' b',Ending.returned (.tuple #[.int .i64 (n:Int),.bool b])=.returned (intB n' b')∧Found X.ops s n' b'∧Below w.heap.size w w5 from ⟨n,b,rfl,HF.out,HB.out.trans (hS.mono HB.out.size)⟩)
 clear hS HF HC HN HB HSE
 go_wp2
 go_ret2
 exact HE.out
end Go.Proofs.YthfhefdfehlbkaaGreat

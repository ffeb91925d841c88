/-
  THE DOCUMENT'S LOG IN MEMORY ('Rg'): its block, its rows, those that wait; what keeps it; Total, waits.
  No conditions but sizes.
  THE DOCUMENT'S LOG: fits.
  No conditions but sizes.
  THE DOCUMENT'S LOG: copied.
  No conditions but sizes.
-/
import Derived.Test.YtfgnmnkihbgjnaaGreatSh
import Derived.Test.YtfgnmnkihbgjnaaGreatGP
import Derived.Test.YtfgnmnkihbgjnaaGreatGT
import Derived.Test.YtfgnmnkihbgjnaaGreatGN
import Derived.Test.YtfgnmnkihbgjnaaGreatGO
set_option maxRecDepth 100000
set_option maxHeartbeats 8000000
namespace Go.Proofs.YtfgnmnkihbgjnaaGreat
open Go.RowKit
structure RoB (F:Nat→Prop) (w:World) (p:Option Addr) (c:Nat) (l:List Be):Prop where
 rd:Rd w p (beCells l)
 of:0<l.length→∀ a,p=some a→F a.block∧a=⟨a.block,0,none⟩
 ops:∀ e,e ∈ l→BopsF F w e.x e.p e.c
 cap:l.length≤c
 nil:p=none→c=0
section
variable {F G:Nat→Prop} {w w':World} {p:Option Addr} {c:Nat} {l:List Be}
theorem RoB.mono (h:RoB F w p c l) (hm:∀ k,k<w.heap.size→F k→G k):RoB G w p c l :=
 ⟨h.rd,fun h0 a ha=>by
  obtain ⟨b,o,e,hb⟩:=h.rd.addr (by rw [beCells_length]; omega)
  obtain ⟨h1,h2⟩:=h.of h0 a ha
  rw [ha] at e; cases e
  exact ⟨hm _ hb h1,h2⟩,fun e he=>(h.ops e he).mono hm,h.cap,h.nil⟩
theorem RoB.turns (h:RoB F w p c l) (ht:Turns G w w') (hd:∀ k,F k→¬ G k):RoB F w' p c l:=by
 refine ⟨fun h0=>?_,h.of,fun e he=>(h.ops e he).turns ht hd,h.cap,h.nil⟩
 obtain ⟨b,o,rfl,hc⟩:=h.rd h0
 have h1:0<l.length:=by rw [beCells_length] at h0; omega
 exact ⟨b,o,rfl,fun i u hu=>ht.cell (hc i u hu) (hd _ (h.of h1 _ rfl).1)⟩
theorem RoB.empty (F:Nat→Prop) (w:World):RoB F w none 0 []:=⟨fun h=>(by cases h),fun h=>(by cases h),fun _ h=>(by cases h),Nat.le_refl _,fun _=>rfl⟩
end
theorem oinfo_rbt:(Tryz.prog.info? 43).map (fun i=>(i.zero,i.size,i.bytes))=some (some (.agg (btA Bat.zero none 0)),4,48):=by kernel_rfl
theorem run_build_rbt (w:World) (y:Bat) (q:Option Addr) (c:Nat):(Instr.buildSlice 22 1 #[(0,.agg (btA y q c))]).run Tryz.prog w=.ok (.slice (some ⟨w.heap.size,0,none⟩) 1 1) (w.alloc (.cells (btA y q c) 43)):=by kernel_rfl
theorem wp_build_rbt {w:World} {o:Oper} {a:Act} {K:Act→World→Prop} {Q:Exit→Act→World→Prop} (x:Operand) (ho:o.op=.buildSlice 22 1 #[(0,x)]) (y:Bat) (q:Option Addr) (c:Nat) (hx:a.eval x=.agg (btA y q c))
  (h:K (a.put o.dst (.slice (some ⟨w.heap.size,0,none⟩) 1 1)) (w.alloc (.cells (btA y q c) 43))):Oper.wp Tryz.prog o a w K Q:=by
 unfold Oper.wp execOp
 simp only [ho,Sem.run_bind,Sem.run_pure,Result.andThen_ok,List.map_toArray,List.map_cons,List.map_nil,hx,run_build_rbt]
 exact h
theorem wpList_build_rbt {w:World} {ops:Array Oper} {rest:List Oper} {o:Oper} {a:Act} {Q:Exit→Act→World→Prop} (hgd:o.guard=none) (x:Operand) (ho:o.op=.buildSlice 22 1 #[(0,x)]) (y:Bat) (q:Option Addr) (c:Nat) (hx:a.eval x=.agg (btA y q c))
  (h:wpList Tryz.prog ops Q rest (a.put o.dst (.slice (some ⟨w.heap.size,0,none⟩) 1 1)) (w.alloc (.cells (btA y q c) 43))):wpList Tryz.prog ops Q (o :: rest) a w :=
 wpList_plain hgd fun _ hK=>wp_build_rbt x ho y q c hx (hK _ _ h)
structure ARow (F:Nat→Prop) (w:World) (p:Option Addr) (c:Nat) (l:List Be):Prop where
 own:w.ownsRow 0 43 4 (.slice p l.length c) l.length (beCells l)
 ops:∀ e,e ∈ l→BopsF (fun k=>F k∧(Value.slice p l.length c).ownBlock≠some k) w e.x e.p e.c
section
variable {F G:Nat→Prop} {w w':World} {p p':Option Addr} {c c':Nat} {l:List Be}
theorem ARow.nil (F:Nat→Prop) (w:World):ARow F w none 0 []:=⟨World.ownsRow_nil _ _ _ _,fun _ h=>(by cases h)⟩
theorem ARow.turns (h:ARow F w p c l) (ht:Turns G w w') (hd:∀ k,F k→¬ G k) (hW:∀ b,(Value.slice p l.length c).ownBlock=some b→¬ G b):ARow F w' p c l :=
 ⟨ht.own h.own hW,fun e he=>(h.ops e he).turns ht fun k hk=>hd k hk.1⟩
theorem ARow.kept (h:ARow F w p c l) (hb:Below w.heap.size w w'):ARow F w' p c l:=h.turns (G:=fun _=>False) (Turns.of_below hb) (fun _ _ h=>h) fun _ _ h=>h
theorem ARow.mono (h:ARow F w p c l) (hm:∀ k,k<w.heap.size→F k→G k):ARow G w p c l:=⟨h.own,fun e he=>(h.ops e he).mono fun k hk h1=>⟨hm k hk h1.1,h1.2⟩⟩
theorem ARow.lt (h:ARow F w p c l) {b:Nat} (hb:(Value.slice p l.length c).ownBlock=some b):b<w.heap.size:=(World.ownsRow.lt h.own b hb).2
theorem ARow.rd (h:ARow F w p c l):Rd w p (beCells l)∧l.length≤c∧(p=none→c=0)∧(∀ a,p=some a→a.block<w.heap.size∧a=⟨a.block,0,none⟩∧(Value.slice p l.length c).ownBlock=some a.block):=by
 obtain ⟨p2,c2,e,h1,h2,-,h3,h4⟩:=own_rd h.own
 obtain ⟨rfl,rfl⟩:p=p2∧c=c2:=by cases e; exact ⟨rfl,rfl⟩
 exact ⟨h1,h2,h3,fun a ha=>⟨(h4 a ha).2.1,(h4 a ha).2.2.2,by rw [ha,(h4 a ha).2.2.2]; rfl⟩⟩
theorem ARow.roB (h:ARow F w p c l):RoB (fun k=>F k∨(Value.slice p l.length c).ownBlock=some k) w p c l:=by
 obtain ⟨h1,h2,h3,h4⟩:=h.rd
 exact ⟨h1,fun _ a ha=>⟨Or.inr (h4 a ha).2.2,(h4 a ha).2.1⟩,fun e he=>(h.ops e he).mono fun _ _ hk=>Or.inl hk.1,h2,h3⟩
theorem ARow.push {e:Be} (h:ARow F w p c l) (he:BopsF (fun k=>F k∧(Value.slice p l.length c).ownBlock≠some k) w e.x e.p e.c)
  (ho:w'.ownsRow 0 43 4 (.slice p' (l.length+1) c') (l.length+1) (beCells l ++ beL e)) (hg:w.grownBy w' (Value.slice p l.length c).ownBlock)
  (hw:∀ g,(Value.slice p' (l.length+1) c').ownBlock=some g→(Value.slice p l.length c).ownBlock=some g∨w.heap.size≤g):ARow F w' p' c' (l ++ [e]):=by
 have hl:(l ++ [e]).length=l.length+1:=by simp
 have hk:∀ b:Be,BopsF (fun k=>F k∧(Value.slice p l.length c).ownBlock≠some k) w b.x b.p b.c→BopsF (fun k=>F k∧(Value.slice p' (l.length+1) c').ownBlock≠some k) w' b.x b.p b.c:=fun b hb=>by
  have h1:=hb.mono (G:=fun k=>F k∧(Value.slice p l.length c).ownBlock≠some k∧(Value.slice p' (l.length+1) c').ownBlock≠some k) fun k hk ⟨h1,h2⟩=>⟨h1,h2,fun hh=>by
   rcases hw k hh with h3 | h3
   ·exact h2 h3
   ·omega⟩
  have h2:=h1.turns (Turns.of_grown hg) fun k hk hh=>hk.2.1 hh
  exact h2.mono fun k _ hk=>⟨hk.1,hk.2.2⟩
 refine ⟨?_,fun b hb=>?_⟩
 ·rw [hl,beCells_append,beCells_sing]; exact ho
 ·rw [hl]
  rcases List.mem_append.1 hb with hb | hb
  ·exact hk b (h.ops b hb)
  ·obtain rfl:b=e:=by simpa using hb
   exact hk b he
theorem ARow.made (ho:w.ownsRow 0 43 4 (.slice p l.length c) l.length (beCells l)) (hops:∀ e,e ∈ l→BopsF F w e.x e.p e.c) (hd:∀ k,F k→(Value.slice p l.length c).ownBlock≠some k):ARow F w p c l :=
 ⟨ho,fun e he=>(hops e he).mono fun k _ hk=>⟨hk,hd k hk⟩⟩
end
structure Rm where
 q:Nat→Option Addr
 c:Nat→Nat
 el:Nat→List Be
 wq:Option Addr
 wc:Nat
 we:List Be
def Rm.v (m:Rm) (r:Nat):Value:=.slice (m.q r) (m.el r).length (m.c r)
def Rm.wv (m:Rm):Value:=.slice m.wq m.we.length m.wc
def Rm.lg (m:Rm):Lg:=⟨fun r=>(m.el r).map (·.x),m.we.map (·.x)⟩
def Rm.zero:Rm:=⟨fun _=>none,fun _=>0,fun _=>[],none,0,[]⟩
theorem Rm.zero_lg:Rm.zero.lg=Lg.zero:=rfl
def rgA (v:Nat→Value) (u:Value):Array Value:=(slL v ++ [u]).toArray
theorem rgA_get (v:Nat→Value) (u:Value) (i:Nat) (h:i<16):(rgA v u)[i]?=some (v i):=by
 unfold rgA
 rw [List.getElem?_toArray,List.getElem?_append_left (by rw [slL_length]; exact h),slL_get v i h]
theorem rgA_wait (v:Nat→Value) (u:Value):(rgA v u)[16]?=some u:=by
 unfold rgA
 rw [List.getElem?_toArray,List.getElem?_append_right (by rw [slL_length]; exact Nat.le_refl _),slL_length]
 rfl
structure Rg (w:World) (R:Nat) (m:Rm) (F:Nat→Prop):Prop where
 st:AgAt w R (rgA m.v m.wv)
 row:∀ r,r<16→RoB F w (m.q r) (m.c r) (m.el r)
 wait:ARow F w m.wq m.wc m.we
 wof:∀ b,m.wv.ownBlock=some b→¬ F b∧b≠R
 nR:¬ F R
 lt:∀ k,F k→k<w.heap.size
section
variable {w w':World} {R:Nat} {m:Rm} {F G:Nat→Prop}
theorem Rg.turns (h:Rg w R m F) (ht:Turns G w w') (hd:∀ k,F k→¬ G k) (hR:¬ G R) (hW:∀ b,m.wv.ownBlock=some b→¬ G b):Rg w' R m F :=
 ⟨h.st.block (ht.block _ (AgAt.lt h.st) hR),fun r hr=>(h.row r hr).turns ht hd,h.wait.turns ht hd hW,h.wof,h.nR,fun k hk=>Nat.lt_of_lt_of_le (h.lt k hk) ht.size⟩
theorem Rg.kept (h:Rg w R m F) (hb:Below w.heap.size w w'):Rg w' R m F:=h.turns (G:=fun _=>False) (Turns.of_below hb) (fun _ _ h=>h) (fun h=>h) fun _ _ h=>h
theorem Rg.more (h:Rg w R m F) (hm:∀ k,k<w.heap.size→F k→G k) (hn:¬ G R) (hW:∀ b,m.wv.ownBlock=some b→¬ G b) (hl:∀ k,G k→k<w.heap.size):Rg w R m G :=
 ⟨h.st,fun r hr=>(h.row r hr).mono hm,h.wait.mono hm,fun b hb=>⟨hW b hb,(h.wof b hb).2⟩,hn,hl⟩
theorem Rg.cell (h:Rg w R m F) {r:Nat} (hr:r<16):w.cell? ⟨R,r,none⟩=some (.slice (m.q r) (m.el r).length (m.c r)):=by
 rw [AgAt.cell h.st r,rgA_get _ _ r hr]; rfl
theorem Rg.wcell (h:Rg w R m F):w.cell? ⟨R,16,none⟩=some (.slice m.wq m.we.length m.wc):=by
 rw [AgAt.cell h.st 16,rgA_wait]; rfl
theorem Rg.slt (h:Rg w R m F):R<w.heap.size:=AgAt.lt h.st
theorem Rm.vec (m:Rm):vecL9 m.lg=fun r=>((m.el r).length:Int):=by funext r; simp [vecL9,Rm.lg]
theorem Rm.len (h:LgOk m.lg) {r:Nat} (hr:r<16):(m.el r).length≤512:=by
 have:=h.len hr
 simpa [Rm.lg] using this
end
theorem rgtotal_any {R:Nat} {m:Rm} {F:Nat→Prop} (w:World) (h:Rg w R m F) (ho:LgOk m.lg) :
  Calls Tryz.prog 41 #[.pointer (some ⟨R,0,none⟩)] w fun e w'=>e=.returned (.int .i64 (totL m.lg))∧w=w':=by
 have HE:=Hi (show sumTo (fun r=>((m.el r).length:Int)) 16=totL m.lg from by rw [ho.totL,Rm.vec])
 have HBD:=Hi (fun (k:Nat) (hk:k≤16)=>show 0≤sumTo (fun r=>((m.el r).length:Int)) k∧sumTo (fun r=>((m.el r).length:Int)) k≤512 from by
  have h1:=ho.tot
  rw [Rm.vec] at h1
  have h2:=sumTo_mono (a:=fun r=>((m.el r).length:Int)) (fun i=>by simp) hk
  have h3:=sumTo_mono (a:=fun r=>((m.el r).length:Int)) (fun i=>by simp) (Nat.zero_le k)
  simp only [sumTo] at h3
  omega)
 have HC:=Hi (fun (k:Nat) (hk:k<16)=>h.cell hk)
 have HLN:=Hi (fun (k:Nat) (hk:k<16)=>Rm.len ho hk)
 clear h ho
 go_enter Tryz.func41,Tryz.ntmps41
 go_wp2
 go_loopw [3,4] (fun n i wr=>∃ k:Nat,k≤16∧i=.int .i64 (k:Int)∧n=.int .i64 (sumTo (fun r=>((m.el r).length:Int)) k)∧wr=w) (fun _ i _=>16 - (intOf i).toNat)
 case atStart=>exact ⟨0,by omega,rfl,rfl,rfl⟩
 case round =>
  obtain ⟨k,hk,rfl,rfl,rfl⟩:=hrel
  by_cases hlt:k<16
  ·have hc:=HC.out k hlt
   have hln:=HLN.out k hlt
   have hbd:=HBD.out k hk
   have hri:(k:Int)<16:=by omega
   have HS:=Hi (show sumTo (fun r=>((m.el r).length:Int)) (k+1)=sumTo (fun r=>((m.el r).length:Int)) k+((m.el k).length:Int) from rfl)
   generalize sumTo (fun r=>((m.el r).length:Int)) k=sm at *
   generalize (m.el k).length=n at *
   go_wp2
   go_roundw
   case rel=>exact ⟨k+1,by omega,by go_num,by rw [HS.out],trivial⟩
   case measure=>simp [intOf]; omega
  ·obtain rfl:k=16:=by omega
   rw [HE.out]
   clear HBD HC HLN
   go_wp2
   go_ret
   exact ⟨rfl,rfl⟩
def wtL (l:List Bat) (r s:Int):Int:=match l.findIdx? (atPl r s) with | none=>-1 | some i=>(i:Int)
theorem wtL_hit {l:List Be} {r s:Int} {k:Nat} (hk:k<l.length) (h1:atPl r s (beOf l k).x=true) (h2:∀ j,j<k→atPl r s (beOf l j).x=false):wtL (l.map (·.x)) r s=(k:Int):=by
 have hb:∀ j (hj:j<(l.map (·.x)).length),(l.map (·.x))[j]=(beOf l j).x:=fun j hj=>by
  have:j<l.length:=by simpa using hj
  simp [beOf,this]
 have:(l.map (·.x)).findIdx? (atPl r s)=some k:=List.findIdx?_eq_some_iff_getElem.2 ⟨by simpa using hk,by rw [hb]; exact h1,fun j hj=>by rw [hb,h2 j hj]; simp⟩
 unfold wtL
 rw [this]
theorem wtL_none {l:List Be} {r s:Int} (h2:∀ j,j<l.length→atPl r s (beOf l j).x=false):wtL (l.map (·.x)) r s = -1:=by
 have:(l.map (·.x)).findIdx? (atPl r s)=none:=List.findIdx?_eq_none_iff.2 fun x hx=>by
  obtain ⟨e,he,rfl⟩:=List.mem_map.1 hx
  obtain ⟨j,hj,rfl⟩:=List.getElem_of_mem he
  have:=h2 j hj
  simpa [beOf,hj] using this
 unfold wtL
 rw [this]
theorem rob_cells {F:Nat→Prop} {w:World} {p:Option Addr} {c:Nat} {l:List Be} (h:RoB F w p c l) {i:Nat} (hi:i<l.length) :
  ∃ b,p=some ⟨b,0,none⟩∧b<w.heap.size∧F b∧w.cell? ⟨b,i * 4,none⟩=some (.int .i64 (beOf l i).x.r)∧w.cell? ⟨b,i * 4+1,none⟩=some (.int .i64 (beOf l i).x.s)∧w.rangeAt b (i * 4) (beL (beOf l i)):=by
 obtain ⟨b,o,rfl,hb⟩:=h.rd.addr (by rw [beCells_length]; omega)
 obtain ⟨hF,ho⟩:=h.of (by omega) _ rfl
 simp only [Addr.mk.injEq,and_true,true_and] at ho
 subst ho
 have hr:=h.rd.be i hi
 rw [Nat.zero_add] at hr
 exact ⟨b,rfl,hb,hF,hr 0 _ rfl,hr 1 _ rfl,hr⟩
theorem rgwaits_any {R:Nat} {m:Rm} {F:Nat→Prop} (r s:Int) (w:World) (h:Rg w R m F) (hl:m.we.length≤1000) :
  Calls Tryz.prog 39 #[.pointer (some ⟨R,0,none⟩),.int .i64 r,.int .i64 s] w fun e w'=>e=.returned (.int .i64 (wtL m.lg.wait r s))∧w=w':=by
 have hw:=h.wcell
 have HT:=Hi h.wait.roB
 have HE:=Hi (fun (k:Nat) (hk:k<m.we.length) (h1:atPl r s (beOf m.we k).x=true) (h2:∀ j,j<k→atPl r s (beOf m.we j).x=false)=>show wtL m.lg.wait r s=(k:Int) from wtL_hit hk h1 h2)
 have HN:=Hi (fun (h2:∀ j,j<m.we.length→atPl r s (beOf m.we j).x=false)=>show wtL m.lg.wait r s = -1 from wtL_none h2)
 generalize wtL m.lg.wait r s=ans at *
 clear h
 go_enter Tryz.func39,Tryz.ntmps39
 go_wp2
 go_loopw [7] (fun i wr=>∃ k:Nat,k≤m.we.length∧i=.int .i64 (k:Int)∧(∀ j,j<k→atPl r s (beOf m.we j).x=false)∧wr=w) (fun i _=>m.we.length - (intOf i).toNat)
 case atStart=>exact ⟨0,Nat.zero_le _,rfl,fun j hj=>by omega,rfl⟩
 case round =>
  obtain ⟨k,hk,rfl,hno,rfl⟩:=hrel
  have HNO:=Hi hno
  clear hno
  by_cases hlt:k<m.we.length
  ·have hd0:decide ((k:Int)<(m.we.length:Int))=true:=decide_eq_true (by omega)
   obtain ⟨b,hq,-,-,c0,c1,-⟩:=rob_cells HT.out hlt
   rw [hq] at hw
   have HAT:=Hi (show atPl r s (beOf m.we k).x=((beOf m.we k).x.r == r && (beOf m.we k).x.s == s) from rfl)
   have HE2:=Hi (fun (h1:atPl r s (beOf m.we k).x=true)=>HE.out k hlt h1 HNO.out)
   have HN2:=Hi (fun (h1:atPl r s (beOf m.we k).x=false)=>show ∀ j,j<k+1→atPl r s (beOf m.we j).x=false from fun j hj=>by
    by_cases e:j=k
    ·subst e; exact h1
    ·exact HNO.out j (by omega))
   generalize (beOf m.we k).x.r=xr at *
   generalize (beOf m.we k).x.s=xs at *
   generalize m.we.length=n at *
   cases t1:xr == r with
   | false =>
    have HN3:=Hi (HN2.out (by rw [HAT.out,t1]; rfl))
    clear HE HN HE2 HN2 HAT HT HNO
    go_wp2
    go_roundw
    case rel=>exact ⟨k+1,by omega,by go_num,HN3.out,trivial⟩
    case measure=>simp [intOf]; omega
   | true =>
    cases t2:xs == s with
    | false =>
     have HN3:=Hi (HN2.out (by rw [HAT.out,t1,t2]; rfl))
     clear HE HN HE2 HN2 HAT HT HNO
     go_wp2
     go_roundw
     case rel=>exact ⟨k+1,by omega,by go_num,HN3.out,trivial⟩
     case measure=>simp [intOf]; omega
    | true =>
     have HA:=Hi (HE2.out (by rw [HAT.out,t1,t2]; rfl))
     clear HE HN HE2 HN2 HAT HT HNO
     go_wp2
     go_ret
     rw [HA.out]
     exact ⟨rfl,rfl⟩
  ·obtain rfl:k=m.we.length:=by omega
   have hd0:decide ((m.we.length:Int)<(m.we.length:Int))=false:=decide_eq_false (by omega)
   have HA:=Hi (HN.out HNO.out)
   clear HE HN HT HNO
   go_wp2
   go_ret
   rw [HA.out]
   exact ⟨rfl,rfl⟩
open Go.RowKit
theorem exec_load_beR {w:World} {t:TypeId} (V:AgT t 4) {c:Act} {o:Oper} {x:Operand} (ho:o.op=.load t x) {b i:Nat} (hx:c.eval x=.pointer (some ⟨b,i * 4,none⟩)) (l:List Be) (hrd:Rd w (some ⟨b,0,none⟩) (beCells l)) (hi:i<l.length) :
  (execOp c.eval o).run Tryz.prog w=.ok (.value (.agg (btA (beOf l i).x (beOf l i).p (beOf l i).c))) w:=by
 obtain ⟨d,hu⟩:=V.und
 have h1:=hrd.be i hi
 rw [Nat.zero_add] at h1
 have hr:=run_loadAt_mid (P:=Tryz.prog) w b (i * 4) t (beL (beOf l i)) _ h1 hu rfl V.size
 unfold execOp
 simp only [ho,hx,Sem.run_bind,hr,Result.andThen_ok,Sem.run_pure]
 rfl
theorem lastRm_nil {m:Rm} {r:Nat} (h:(m.el r).length=0):lastR m.lg r=(0,0):=by
 have:m.el r=[]:=List.eq_nil_of_length_eq_zero h
 simp [lastR,Rm.lg,this]
theorem lastRm_at {m:Rm} {r k:Nat} (h:(m.el r).length=k+1):lastR m.lg r=endT (beOf (m.el r) k).x:=by
 have h1:((m.el r).map (·.x)).getLast?=some (beOf (m.el r) k).x:=by
  rw [List.getLast?_eq_getElem?]
  simp [h,beOf]
 unfold lastR Rm.lg
 dsimp only
 rw [h1]
theorem rgfits_any {R:Nat} {m:Rm} {F:Nat→Prop} (x:Bat) (p:Option Addr) (c:Nat) (w:World) (h:Rg w R m F) (ho:LgOk m.lg) (hx:rightT x=true) :
  Calls Tryz.prog 42 #[.pointer (some ⟨R,0,none⟩),.agg (btA x p c)] w fun e w'=>e=.returned (.bool (fitsL m.lg x))∧Below w.heap.size w w':=by
 obtain ⟨hr,hxr⟩:=right_r hx
 have HE0:=Hi (show fitsL m.lg x=decide ((lastR m.lg x.r.toNat).1<x.t) from rfl)
 have HT:=Hi (show 0<x.t from by have:=rightT_iff.1 hx; omega)
 generalize x.r.toNat=r at *
 replace hxr:x.r=(r:Int):=hxr.symm
 have hb:=(Below.refl w.heap.size w).alloc (Nat.le_refl _) (.cells (btA x p c) 43)
 have HD:=Hi (show BtAt (w.alloc (.cells (btA x p c) 43)) w.heap.size x p c∧Rg (w.alloc (.cells (btA x p c) 43)) R m F∧Below w.heap.size w (w.alloc (.cells (btA x p c) 43)) from ⟨AgAt.new w (btA x p c) 43,h.kept hb,hb⟩)
 have hl:(m.el r).length≤512:=Rm.len ho hr
 by_cases h0:(m.el r).length=0
 ·have HE:=Hi (show fitsL m.lg x=true from by rw [HE0.out,lastRm_nil h0]; exact decide_eq_true HT.out)
  rw [HE.out]
  clear h hb ho hx HE HE0 HT
  go_enter Tryz.func42,Tryz.ntmps42
  go_upto_region 1 with fail
  refine wp_region_held_drew (S:=fun W=>BtAt W w.heap.size x p c∧Rg W R m F∧Below w.heap.size w W) (by kernel_rfl) ⟨AgAt.kept HD.out.1 (Below.drew (Below.refl _ _)),HD.out.2.1.kept (Below.drew (Below.refl _ _)),HD.out.2.2.drew⟩ (fun hS=>?_)
  generalize (w.alloc (.cells (btA x p c) 43)).drew=wd at *
  refine tX 0 rfl hS ?_
  refine tX 1 rfl hS ?_
  refine tK 2 (v:=?_) rfl ?_ hS ?_
  rotate_left
  ·intro W hSW
   obtain ⟨x0,x1,x2,x3⟩:=BtAt.cells hSW.1
   rw [hxr] at x0
   go_simp
   all_goals with_reducible rfl
  refine tX 3 rfl hS ?_
  go_simp
  refine tX 4 rfl hS ?_
  refine tK 5 (v:=?_) rfl ?_ hS ?_
  rotate_left
  ·intro W hSW
   have hri:(r:Int)<16:=by omega
   go_simp
   all_goals with_reducible rfl
  refine tK 6 (v:=?_) rfl ?_ hS ?_
  rotate_left
  ·intro W hSW
   have yc:=hSW.2.1.cell hr
   rw [h0] at yc
   go_simp
   all_goals with_reducible rfl
  refine tX 7 rfl hS ?_
  go_simp
  refine tX 8 rfl hS ?_
  go_simp
  refine wpAnyH_done (by kernel_rfl) ?_ _
  go_simp
  have HS1:=Hi hS
  clear hS
  go_upto_region 2 with fail
  refine wp_region_held_drew (S:=fun W=>BtAt W w.heap.size x p c∧Rg W R m F∧Below w.heap.size w W) (by kernel_rfl) ⟨AgAt.kept HS1.out.1 (Below.drew (Below.refl _ _)),HS1.out.2.1.kept (Below.drew (Below.refl _ _)),HS1.out.2.2.drew⟩ (fun hS=>?_)
  generalize wd.drew=wd2 at *
  clear HS1
  refine tX 0 rfl hS ?_
  refine tX 1 rfl hS ?_
  refine tX 2 rfl hS ?_
  go_simp
  refine tU 3 rfl hS ?_
  go_simp
  refine tU 4 rfl hS ?_
  go_simp
  refine tU 5 rfl hS ?_
  go_simp
  refine tU 6 rfl hS ?_
  go_simp
  refine tU 7 rfl hS ?_
  go_simp
  refine tU 8 rfl hS ?_
  go_simp
  refine tU 9 rfl hS ?_
  go_simp
  refine tU 10 rfl hS ?_
  go_simp
  refine tU 11 rfl hS ?_
  go_simp
  refine tU 12 rfl hS ?_
  go_simp
  refine tU 13 rfl hS ?_
  go_simp
  refine tU 14 rfl hS ?_
  go_simp
  refine tU 15 rfl hS ?_
  go_simp
  refine tU 16 rfl hS ?_
  go_simp
  refine tU 17 rfl hS ?_
  go_simp
  refine tU 18 rfl hS ?_
  refine tX 19 rfl hS ?_
  refine tX 20 rfl hS ?_
  go_simp
  refine wpAnyH_done (by kernel_rfl) ?_ _
  go_simp
  clear HD
  go_wp2
  go_ret
  exact ⟨rfl,hS.2.2⟩
 ·obtain ⟨k,hk⟩:∃ k,(m.el r).length=k+1:=⟨(m.el r).length - 1,by omega⟩
  have HKL:=Hi (show k<(m.el r).length from by omega)
  have HMEM:=Hi (beOf_mem HKL.out)
  have HSZ:=Hi (show Szs (beOf (m.el r) k).x.ops from (ho.right r hr _ (List.mem_map.2 ⟨_,HMEM.out,rfl⟩)).szs)
  obtain ⟨g,hq,-⟩:=rob_cells (h.row r hr) HKL.out
  have HQ:=Hi hq
  have HE:=Hi (show fitsL m.lg x=decide ((endT (beOf (m.el r) k).x).1<x.t) from by rw [HE0.out,lastRm_at hk])
  have HFD:=Hi (fun W=>run_field_st (endT (beOf (m.el r) k).x).1 (endT (beOf (m.el r) k).x).2 W)
  have e1:((k+1:Nat):Int) - 1=(k:Int):=by omega
  have t0:(((k+1:Nat):Int) == 0)=false:=by rw [beq_eq_false_iff_ne]; omega
  have hk2:k+1≤512:=by omega
  have t1:(((k:Int)+1) == 0)=false:=by rw [beq_eq_false_iff_ne]; omega
  have w0:IntKind.i64.wrap (k:Int)=(k:Int):=wraps_i64 _ (by omega) (by omega)
  have hri2:(0:Int)≤(k:Int)∧(k:Int)<(k:Int)+1:=by omega
  rw [HE.out]
  clear h hb ho hx HE HE0 HT hl h0 hq
  go_enter Tryz.func42,Tryz.ntmps42
  go_upto_region 1 with fail
  refine wp_region_held_drew (S:=fun W=>BtAt W w.heap.size x p c∧Rg W R m F∧Below w.heap.size w W) (by kernel_rfl) ⟨AgAt.kept HD.out.1 (Below.drew (Below.refl _ _)),HD.out.2.1.kept (Below.drew (Below.refl _ _)),HD.out.2.2.drew⟩ (fun hS=>?_)
  generalize (w.alloc (.cells (btA x p c) 43)).drew=wd at *
  refine tX 0 rfl hS ?_
  refine tX 1 rfl hS ?_
  refine tK 2 (v:=?_) rfl ?_ hS ?_
  rotate_left
  ·intro W hSW
   obtain ⟨x0,x1,x2,x3⟩:=BtAt.cells hSW.1
   rw [hxr] at x0
   go_simp
   all_goals with_reducible rfl
  refine tX 3 rfl hS ?_
  go_simp
  refine tX 4 rfl hS ?_
  refine tK 5 (v:=?_) rfl ?_ hS ?_
  rotate_left
  ·intro W hSW
   have hri:(r:Int)<16:=by omega
   go_simp
   all_goals with_reducible rfl
  refine tK 6 (v:=?_) rfl ?_ hS ?_
  rotate_left
  ·intro W hSW
   have yc:=hSW.2.1.cell hr
   rw [HQ.out,hk] at yc
   go_simp
   all_goals with_reducible rfl
  refine tX 7 rfl hS ?_
  go_simp
  refine tX 8 rfl hS ?_
  go_simp
  refine wpAnyH_done (by kernel_rfl) ?_ _
  go_simp
  have HS1:=Hi hS
  clear hS
  go_upto_region 2 with fail
  refine wp_region_held_drew (S:=fun W=>BtAt W w.heap.size x p c∧Rg W R m F∧Below w.heap.size w W) (by kernel_rfl) ⟨AgAt.kept HS1.out.1 (Below.drew (Below.refl _ _)),HS1.out.2.1.kept (Below.drew (Below.refl _ _)),HS1.out.2.2.drew⟩ (fun hS=>?_)
  generalize wd.drew=wd2 at *
  clear HS1
  refine tX 0 rfl hS ?_
  refine tX 1 rfl hS ?_
  refine tX 2 rfl hS ?_
  refine tX 3 rfl hS ?_
  go_simp
  refine tK 4 (v:=?_) rfl ?_ hS ?_
  rotate_left
  ·intro W hSW
   obtain ⟨x0,x1,x2,x3⟩:=BtAt.cells hSW.1
   rw [hxr] at x0
   go_simp
   all_goals with_reducible rfl
  refine tX 5 rfl hS ?_
  refine tX 6 rfl hS ?_
  refine tK 7 (v:=?_) rfl ?_ hS ?_
  rotate_left
  ·intro W hSW
   obtain ⟨x0,x1,x2,x3⟩:=BtAt.cells hSW.1
   rw [hxr] at x0
   go_simp
   all_goals with_reducible rfl
  go_simp
  refine tX 8 rfl hS ?_
  refine tX 9 rfl hS ?_
  refine tK 10 (v:=?_) rfl ?_ hS ?_
  rotate_left
  ·intro W hSW
   have hri:(r:Int)<16:=by omega
   go_simp
   all_goals with_reducible rfl
  refine tK 11 (v:=?_) rfl ?_ hS ?_
  rotate_left
  ·intro W hSW
   have yc:=hSW.2.1.cell hr
   rw [HQ.out,hk] at yc
   go_simp
   all_goals with_reducible rfl
  go_simp
  refine tX 12 rfl hS ?_
  refine tX 13 rfl hS ?_
  refine tX 14 rfl hS ?_
  go_simp
  refine tK 15 (v:=.agg (btA (beOf (m.el r) k).x (beOf (m.el r) k).p (beOf (m.el r) k).c)) rfl (fun W hSW=>exec_load_beR btR rfl rfl _ (by have:=(hSW.2.1.row r hr).rd; rw [HQ.out] at this; exact this) HKL.out) hS ?_
  go_simp
  refine rD 16 rfl (fun K hK=>?_)
  go_simp
  go_wp2_with ((go_at_call 52; refine (r8end_any _ _ _ _ HSZ.out ((hS.2.1.row r hr).ops _ HMEM.out).bops).mono ?_; rintro e wn ⟨rfl,hbn⟩))
  refine hK.out _ _ ⟨AgAt.kept hS.1 hbn,hS.2.1.kept hbn,hS.2.2.trans (hbn.mono hS.2.2.size)⟩ (fun hS=>?_)
  clear hK K hbn
  refine tK 17 (v:=?_) rfl ?_ hS ?_
  rotate_left
  ·intro W hSW
   have hf:=HFD.out W
   go_simp
   all_goals with_reducible rfl
  refine tX 18 rfl hS ?_
  refine tX 19 rfl hS ?_
  refine tX 20 rfl hS ?_
  go_simp
  refine wpAnyH_done (by kernel_rfl) ?_ _
  go_simp
  clear HD
  go_wp2
  go_ret
  exact ⟨rfl,hS.2.2⟩
open Go.RowKit
theorem agR:AgT 89 12:=⟨otR.und,otR.size⟩
theorem wpList_build_rop9 {w:World} {ops:Array Oper} {rest:List Oper} {o:Oper} {a:Act} {Q:Exit→Act→World→Prop} (hgd:o.guard=none) (x:Operand) (ho:o.op=.buildSlice 41 1 #[(0,x)]) (y:Opp) (q:Option Addr) (c:Nat) (hx:a.eval x=.agg (opA y q c))
  (h:wpList Tryz.prog ops Q rest (a.put o.dst (.slice (some ⟨w.heap.size,0,none⟩) 1 1)) (w.alloc (.cells (opA y q c) 89))):wpList Tryz.prog ops Q (o :: rest) a w:=by
 refine wpList_plain hgd fun K hK=>?_
 unfold Oper.wp execOp
 simp only [ho,Sem.run_bind,Sem.run_pure,Result.andThen_ok,List.map_toArray,List.map_cons,List.map_nil,hx,run_build_rop]
 exact hK _ _ h
structure CoI (w0:World) (x y:Bat) (l:List En) (p:Option Addr) (c:Nat) (w:World):Prop where
 grow:GrowR w0.heap.size y l p c w
 res:AgAt w (w0.heap.size+1) (btA Bat.zero none 0)
 hi:∀ g,(Value.slice p y.ops.length c).ownBlock=some g→w0.heap.size+2≤g
 far:∀ e,e ∈ l→0<e.x.path.length→∀ a,e.q=some a→w0.heap.size+2≤a.block
 bel:Below w0.heap.size w0 w
section
variable {w0 w w':World} {x y:Bat} {l:List En} {p p':Option Addr} {c c':Nat}
theorem CoI.kept (h:CoI w0 x y l p c w) (hb:Below w.heap.size w w'):CoI w0 x y l p c w' :=
 ⟨h.grow.kept hb,h.res.kept hb,h.hi,h.far,h.bel.trans (hb.mono h.bel.size)⟩
theorem CoI.sz (h:CoI w0 x y l p c w):w0.heap.size+2≤w.heap.size:=AgAt.lt h.res
theorem CoI.step {z:Opp} {q:Option Addr} {k:Nat} (h:CoI w0 x y l p c w) (hp:Pa w z q k) (hq:∀ a,q=some a→w0.heap.size+2≤a.block∧(Value.slice p y.ops.length c).ownBlock≠some a.block)
  (ho:w'.ownsRow (w0.heap.size+1) 89 12 (.slice p' (y.ops.length+1) c') (y.ops.length+1) (enCells l ++ opL z q k)) (hg:w.grownBy w' (Value.slice p y.ops.length c).ownBlock)
  (hw:∀ g,(Value.slice p' (y.ops.length+1) c').ownBlock=some g→(Value.slice p y.ops.length c).ownBlock=some g∨w.heap.size≤g) :
  CoI w0 x { y with ops:=y.ops ++ [z] } (l ++ [⟨z,q,k⟩]) p' c' (w'.setCell ⟨w0.heap.size,3,none⟩ (.slice p' (y.ops.length+1) c'))∧BtAt w' w0.heap.size y p c:=by
 have hsz:=h.sz
 obtain ⟨h1,h2,h3⟩:=h.grow.grown hp (fun _ a ha=>⟨by have:=(hq a ha).1; omega,(hq a ha).2⟩) ho hg hw
 have hres:AgAt w' (w0.heap.size+1) (btA Bat.zero none 0):=h.res.block (hg.block _ (AgAt.lt h.res) fun e=>by have:=h.hi _ e.symm; omega)
 refine ⟨⟨h1,hres.block (heap_setCell_other _ _ _ _ (by simp)),fun g hgg=>?_,fun e he h0 a ha=>?_,h.bel.trans h2⟩,h3⟩
 ·have hl:(y.ops ++ [z]).length=y.ops.length+1:=by simp
  dsimp only at hgg
  rw [hl] at hgg
  rcases hw g hgg with h4 | h4
  ·exact h.hi g h4
  ·omega
 ·rcases List.mem_append.1 he with he | he
  ·exact h.far e he h0 a ha
  ·obtain rfl:e=⟨z,q,k⟩:=by simpa using he
   exact (hq a ha).1
theorem CoI.done (h:CoI w0 x y l p c w) (ht:Turns (fun j=>j=w0.heap.size+1) w w'):BopsN w0.heap.size w' y p c:=by
 obtain ⟨p2,c2,e,h1,h2,-,h3,h4⟩:=own_rd h.grow.own
 obtain ⟨rfl,rfl⟩:p=p2∧c=c2:=by cases e; exact ⟨rfl,rfl⟩
 refine ⟨l,⟨h.grow.map,ht.rd h1 fun a ha ea=>?_,fun e he=>⟨fun h0=>?_,(h.grow.pa e he).nil,(h.grow.pa e he).cap⟩,h3,h2⟩,fun _ a ha=>by have:=(h4 a ha).1; omega,fun e he h0 a ha=>by have:=h.far e he h0 a ha; omega⟩
 ·have h5:=(h4 a ha).2.2.2
  have:=h.hi a.block (by rw [ha,h5]; rfl)
  omega
 ·rw [stCells_length] at h0
  refine ht.rd (h.grow.pa e he).rd (fun a ha ea=>?_) (by rw [stCells_length]; exact h0)
  have:=h.far e he (by omega) a ha
  omega
end
theorem rgcopied_any (x:Bat) (p:Option Addr) (c:Nat) (w:World) (h:Bops w x p c) (hs:CpSz x) :
  Calls Tryz.prog 40 #[.agg (btA x p c)] w fun e w'=>∃ p' c',e=.returned (.agg (btA x p' c'))∧BopsN w.heap.size w' x p' c'∧Below w.heap.size w w':=by
 obtain ⟨i0,hi,hz0,hz1,hz2⟩:=info_parts oinfo_st
 obtain ⟨j0,hj,hy0,hy1,hy2⟩:=info_parts oinfo_rop
 obtain ⟨l0,h⟩:=h
 obtain ⟨hl,hp⟩:=hs
 have hb1:=(Below.refl w.heap.size w).alloc (Nat.le_refl _) (.cells (btA x p c) 43)
 have hb2:=(Below.refl (w.alloc (.cells (btA x p c) 43)).heap.size _).alloc (Nat.le_refl _) (.cells #[.int .i64 0,.int .i64 0,.int .i64 0,.slice none 0 0] 43)
 have HX:=Hi (show BtAt ((w.alloc (.cells (btA x p c) 43)).alloc (.cells #[.int .i64 0,.int .i64 0,.int .i64 0,.slice none 0 0] 43)) w.heap.size x p c from (AgAt.new w _ _).kept hb2)
 have HOS:=Hi (fun W (hb:Below w.heap.size w W)=>h.kept hb)
 obtain ⟨x0,x1,x2,x3⟩:=BtAt.cells HX.out
 have xf:=AgAt.free HX.out 3
 have T:=Hi (show CoI w x ⟨x.r,x.s,x.t,[]⟩ [] none 0 ((w.alloc (.cells ((btA x p c).setIfInBounds 3 (.slice none 0 0)) 43)).alloc (.cells #[.int .i64 0,.int .i64 0,.int .i64 0,.slice none 0 0] 43)) from by
  have e2:(btA x p c).setIfInBounds 3 (.slice none 0 0)=#[.int .i64 x.r,.int .i64 x.s,.int .i64 x.t,.slice none 0 0]:=by unfold btA; simp
  rw [e2]
  have k2:=AgAt.new w #[.int .i64 x.r,.int .i64 x.s,.int .i64 x.t,.slice none 0 0] 43
  have hc1:=(Below.refl w.heap.size w).alloc (Nat.le_refl _) (.cells #[.int .i64 x.r,.int .i64 x.s,.int .i64 x.t,.slice none 0 0] 43)
  have e1:(w.alloc (.cells #[.int .i64 x.r,.int .i64 x.s,.int .i64 x.t,.slice none 0 0] 43)).heap.size=w.heap.size+1:=by simp
  generalize w.alloc (.cells #[.int .i64 x.r,.int .i64 x.s,.int .i64 x.t,.slice none 0 0] 43)=W1 at *
  have k1:=AgAt.new W1 #[.int .i64 0,.int .i64 0,.int .i64 0,.slice none 0 0] 43
  have hc2:=(Below.refl W1.heap.size W1).alloc (Nat.le_refl _) (.cells #[.int .i64 0,.int .i64 0,.int .i64 0,.slice none 0 0] 43)
  rw [e1] at k1 hc2
  exact ⟨GrowR.start (k2.below hc2 (by omega)),k1,fun g hg=>(by cases hg),fun _ h=>(by cases h),hc1.trans (hc2.mono (by omega))⟩)
 clear h hb1 hb2 HX
 go_enter Tryz.func40,Tryz.ntmps40
 go_wp2
 go_loopw [4] (fun i wr=>∃ (k:Nat) (l:List En) (p':Option Addr) (c':Nat),k≤x.ops.length∧i=.int .i64 (k:Int)∧CoI w x ⟨x.r,x.s,x.t,x.ops.take k⟩ l p' c' wr) (fun i _=>x.ops.length - (intOf i).toNat)
 case atStart=>exact ⟨0,[],none,0,Nat.zero_le _,rfl,T.out⟩
 case round =>
  clear T x0 x1 x2 x3 xf
  obtain ⟨k,l,p',c',hk,rfl,ht⟩:=hrel
  have T:=Hi ht
  clear ht
  by_cases hlt:k<x.ops.length
  ·have HTK:=Hi (take_succ_op x.ops k hlt)
   have HTL:=Hi (show (x.ops.take k).length=k by rw [List.length_take]; omega)
   obtain ⟨b,o,rfl,hb⟩:=(HOS.out _ T.out.bel).rd.addr (by rw [enCells_length,(HOS.out _ T.out.bel).len]; omega)
   have HRD:=Hi (HOS.out _ T.out.bel).rd
   have HLL:=Hi (show k<l0.length by rw [(HOS.out _ T.out.bel).len]; exact hlt)
   have HXK:=Hi ((HOS.out _ T.out.bel).x k)
   have HPK:=Hi ((HOS.out _ T.out.bel).paOf hlt)
   have HPL:=Hi (hp _ (opOf_mem hlt))
   have hd0:decide ((k:Int)<(x.ops.length:Int))=true:=decide_eq_true (by omega)
   generalize x.ops.take k=tk at *
   generalize opOf x.ops k=y at *
   go_upto_region 7 with (first | (refine wpList_load_en otR rfl _ rfl b o k rfl l0 HRD.out HLL.out ?_; rw [HXK.out]) | (refine wpList_store_newag agR rfl _ _ rfl rfl _ rfl rfl rfl (opA_one _ _ _) ?_; intro w4 hv4 hb4))
   generalize (enOf l0 k).q=q0 at *
   generalize (enOf l0 k).c=c0 at *
   have HSZ:=Hi (show w.heap.size+2≤wr.heap.size∧wr.heap.size<w4.heap.size from ⟨T.out.sz,AgAt.lt hv4⟩)
   have HLW:=Hi (fun g hg=>(World.ownsRow.lt T.out.grow.own g hg).2)
   have hb5:=(Below.refl w4.heap.size w4).alloc (Nat.le_refl _) (.cells #[] 50)
   have HP5:=Hi ((HPK.out.kept hb4).kept hb5)
   have HO5:=Hi (World.ownsRow_lit (base:=w4.heap.size) (e:=50) (size:=2) w4 #[] 0 (Nat.le_refl _) (by simp [maxLen]) (by simp))
   have HV4:=Hi (show OpAt w4 wr.heap.size y q0 c0 from hv4)
   have HB4:=Hi hb4
   have HB5:=Hi hb5
   have v6:=(show OpAt (w4.alloc (.cells #[] 50)) wr.heap.size y q0 c0 from AgAt.kept hv4 hb5).cells.2.2.2.2.2.2.1
   clear hv4 hb4 hb5
   go_wp2_with (at_builtin; refine wpList_append_k rfl _ _ 51 rfl w4.heap.size 50 i0 _ 2 16 Tryz.underlying51 hi hz0 hz1 (by decide) hz2 (by decide) rfl _ 0 [] rfl HO5.out _ y.path.length c0 (stCells y.path) rfl (stCells_length y.path) HP5.out.rd HP5.out.nil stCells_one (by have:=HPL.out; omega) (by simp) ?_)
   intro p6 c6 w6 ho6 hg6 _
   have HB6:=Hi (show Below w4.heap.size w4 w6 from HB5.out.grown hg6 (by simp) (fun k hk=>by cases hk; exact Nat.le_refl _))
   have HV6:=Hi (show OpAt w6 wr.heap.size y q0 c0 from AgAt.kept HV4.out HB6.out)
   have z6:=HV6.out.cells.2.2.2.2.2.2.1
   have zf:=HV6.out.free 6
   have HV7:=Hi (show OpAt (w6.setCell ⟨wr.heap.size,6,none⟩ (.slice p6 y.path.length c6)) wr.heap.size y p6 c6 from HV6.out.setPath y.path p6 c6)
   have HB7:=Hi (show Below wr.heap.size wr (w6.setCell ⟨wr.heap.size,6,none⟩ (.slice p6 y.path.length c6)) from (HB4.out.trans (HB6.out.mono (by have:=HSZ.out; omega))).setCell (p:=⟨wr.heap.size,6,none⟩) (Nat.le_refl _) _)
   have HP7:=Hi (show Pa (w6.setCell ⟨wr.heap.size,6,none⟩ (.slice p6 y.path.length c6)) y p6 c6∧∀ a,p6=some a→wr.heap.size<a.block from by
    have ho7:=(set_turns wr.heap.size w6 6 (.slice p6 y.path.length c6)).own ho6 fun g hg e=>by
     have:=(World.ownsRow.lt ho6 g hg).1
     have:=HSZ.out
     omega
    obtain ⟨p2,c2,e2,hr2,hl2,-,hn2,hb2⟩:=own_rd ho7
    obtain ⟨rfl,rfl⟩:p6=p2∧c6=c2:=by cases e2; exact ⟨rfl,rfl⟩
    exact ⟨⟨hr2,hn2,hl2⟩,fun a ha=>by have:=(hb2 a ha).1; have:=HSZ.out; omega⟩)
   clear ho6 hg6
   go_upto_region 8 with fail
   generalize w6.setCell ⟨wr.heap.size,6,none⟩ (.slice p6 y.path.length c6)=w7 at *
   clear z6 zf v6 HB5 HB6 HV6 HO5 HP5 HV4 HB4
   have T7:=Hi (T.out.kept HB7.out)
   have hb8:=(Below.refl w7.heap.size w7).alloc (Nat.le_refl _) (.cells (opA y p6 c6) 89)
   have T8:=Hi (T7.out.kept hb8)
   have HP8:=Hi (HP7.out.1.kept hb8)
   have HN8:=Hi (show ∀ a,p6=some a→w.heap.size+2≤a.block∧(Value.slice p' tk.length c').ownBlock≠some a.block from fun a ha=>by
    have h1:=HP7.out.2 a ha
    have h2:=HSZ.out
    exact ⟨by omega,fun hh=>by have:=HLW.out _ hh; omega⟩)
   have HRW:=Hi (rd_op_one w7 y p6 c6 89)
   have y3:=(BtAt.cells T7.out.grow.at_).2.2.2
   dsimp only at y3
   clear hb8
   go_wp2_with (first | (refine wpList_load_op otR rfl _ rfl _ rfl y p6 c6 HV7.out ?_) | (refine wpList_build_rop9 rfl _ rfl y p6 c6 rfl ?_) | (at_builtin; refine wpList_append_k rfl _ _ 41 rfl (w.heap.size+1) 89 j0 _ 12 128 Tryz.underlying41 hj hy0 hy1 (by decide) hy2 (by decide) rfl _ tk.length (enCells l) rfl T8.out.grow.own _ 1 1 (opL y p6 c6) rfl rfl HRW.out (fun h=>by cases h) (opL_one y p6 c6) (by have:=HTL.out; omega) (by have:=T8.out.sz; omega) ?_))
   intro p9 c9 w9 ho9 hg9 hw9
   have HG:=Hi (T8.out.step HP8.out HN8.out ho9 hg9 (fun g hg=>(hw9 g hg).imp id fun h=>by simpa using h))
   have z3:=(BtAt.cells HG.out.2).2.2.2
   have zf:=AgAt.free HG.out.2 3
   dsimp only at z3
   clear ho9 hg9 hw9 y3
   go_wp2
   go_roundw
   case rel=>exact ⟨k+1,_,_,_,by omega,by go_num,by rw [HTK.out]; exact HG.out.1⟩
   case measure=>simp [intOf]; omega
  ·obtain rfl:k=x.ops.length:=by omega
   rw [List.take_length] at T
   have hx:=T.out.grow.at_
   have hd0:decide ((x.ops.length:Int)<(x.ops.length:Int))=false:=decide_eq_false (by omega)
   go_wp2_with (first | (refine wpList_load_ag btR (by kernel_rfl) _ rfl _ rfl (A:=btA _ p' c') rfl (by assumption) ?_) | (refine wpList_store_ag btR rfl _ _ rfl _ rfl _ T.out.res rfl rfl rfl (btA_one _ _ _) ?_; intro wy hvy hko hsz hbn))
   refine bodyPost_ret (results_ag btR _ rfl rfl hvy rfl) rfl ?_
   exact ⟨p',c',rfl,T.out.done (stored_turns hko hsz hbn),hbn _ _ T.out.bel (Nat.le_succ _)⟩
end Go.Proofs.YtfgnmnkihbgjnaaGreat

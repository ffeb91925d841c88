/-
  A ROW OF OPS THAT GROWS: a batch's block whose row of ops is the call's own ('Grow'), append of an op to it.
  No conditions but sizes.
  THE LAW's HELPERS: Light (is a batch small), Own (a batch of the program's, its ops copied).
  No conditions but sizes.
-/
import Derived.Test.YtfgnmnkihbgjnaaGreatSh
import Derived.Test.YtfgnmnkihbgjnaaGreatGG
import Derived.Test.YtfgnmnkihbgjnaaGreatOOwn
set_option maxRecDepth 100000
set_option maxHeartbeats 8000000
namespace Go.Proofs.YtfgnmnkihbgjnaaGreat
open Go.RowKit
theorem oinfo_op:(Tryz.prog.info? 55).map (fun i=>(i.zero,i.size,i.bytes))=some (some (.agg (opA Opp.zero none 0)),12,128):=by kernel_rfl
theorem step_append_kN {P:Program} {w:World} {ops:Array Oper} {o:Oper} {a:Act} {K:Act→World→Prop} {Q:Exit→Act→World→Prop} {E:Prop} (hgd:o.guard=none) (s x:Operand) (t:TypeId)
  (ho:o.op=.call { callee:=.builtin .append,args:=#[s,x],argTypes:=#[t,t] })
  (base:Nat) (e:TypeId) (i:TypeInfo) (z:Value) (k bytes:Nat) (ht:P.underlying t=some (.slice e)) (hi:P.info? e=some i) (hz:i.zero=some z)
  (hsize:i.size=k) (hk0:0<k) (hby:i.bytes=bytes) (hb1:bytes≤1000) (hzs:z.cells.size=k)
  (v:Value) (n:Nat) (xs:List Value) (hs:a.eval s=v) (hown:w.ownsRow base e k v n xs)
  (p:Option Addr) (m c:Nat) (us:List Value) (hx:a.eval x=.slice p m c) (hus:us.length=m * k) (hrd:Rd w p us) (hpn:p=none→c=0) (h1:∀ u ∈ us,u.oneCell'=true)
  (hsz:n+m≤10000) (hbase:base≤w.heap.size)
  (h:∀ p' c' w',w'.ownsRow base e k (.slice p' (n+m) c') (n+m) (xs ++ us)→w.grownBy w' v.ownBlock→(∀ g,(Value.slice p' (n+m) c').ownBlock=some g→v.ownBlock=some g∨w.heap.size≤g)→K (a.put o.dst (.slice p' (n+m) c')) w') :
  if Region.wanted o (yielded ops a.tmps)=true then Oper.wp P o a w K Q else E:=by
 have hw:Region.wanted o (yielded ops a.tmps)=true:=by simp [Region.wanted,hgd]
 rw [if_pos hw]
 obtain ⟨v',w',hr,h2,h3,h4⟩:=run_append_k (P:=P) w base t o.type e i z k bytes ht hi hz hsize hk0 hby (by omega) hzs v n xs hown p m c us hus hrd hpn h1
  (Nat.le_trans (Nat.mul_le_mul hsz hb1) (by decide)) (by unfold maxLen; omega) hbase
 obtain ⟨p',c',rfl,-⟩:=own_rd h2
 unfold Oper.wp execOp
 simp only [ho,resolve,invoke,builtin,Sem.run_bind,Sem.run_pure,Result.andThen_ok,List.map_toArray,List.map_cons,List.map_nil,hs,hx,hr]
 exact h p' c' w' h2 h3 h4
theorem rd_op_one (w:World) (x:Opp) (q:Option Addr) (c:Nat) (E:TypeId):Rd (w.alloc (.cells (opA x q c) E)) (some ⟨w.heap.size,0,none⟩) (opL x q c):=fun _=>⟨_,0,rfl,fun i u hu=>by
 rw [Nat.zero_add,World.cell?_alloc_at _ _ _ _ rfl,← hu]
 simp [opA]⟩
theorem opL_one (x:Opp) (q:Option Addr) (c:Nat):∀ u ∈ opL x q c,u.oneCell'=true:=by
 intro u hu
 have:=enCells_one (l:=[⟨x,q,c⟩]) u
 rw [enCells_sing] at this
 exact this hu
theorem run_build_op (w:World) (y:Opp) (q:Option Addr) (c:Nat):(Instr.buildSlice 37 1 #[(0,.agg (opA y q c))]).run Tryz.prog w=.ok (.slice (some ⟨w.heap.size,0,none⟩) 1 1) (w.alloc (.cells (opA y q c) 55)):=by kernel_rfl
theorem step_build_op {w:World} {ops:Array Oper} {o:Oper} {a:Act} {K:Act→World→Prop} {Q:Exit→Act→World→Prop} {E:Prop} (hgd:o.guard=none) (x:Operand) (ho:o.op=.buildSlice 37 1 #[(0,x)]) (y:Opp) (q:Option Addr) (c:Nat) (hx:a.eval x=.agg (opA y q c))
  (h:K (a.put o.dst (.slice (some ⟨w.heap.size,0,none⟩) 1 1)) (w.alloc (.cells (opA y q c) 55))):if Region.wanted o (yielded ops a.tmps)=true then Oper.wp Tryz.prog o a w K Q else E:=by
 have hw:Region.wanted o (yielded ops a.tmps)=true:=by simp [Region.wanted,hgd]
 rw [if_pos hw]
 unfold Oper.wp execOp
 simp only [ho,Sem.run_bind,Sem.run_pure,Result.andThen_ok,List.map_toArray,List.map_cons,List.map_nil,hx,run_build_op]
 exact h
def Far (R:Nat) (v:Value) (x:Opp) (q:Option Addr):Prop:=0<x.path.length→∀ a,q=some a→R<a.block∧v.ownBlock≠some a.block
structure Grow (R:Nat) (x:Bat) (l:List En) (p:Option Addr) (c:Nat) (w:World):Prop where
 at_:BtAt w R x p c
 own:w.ownsRow (R+1) 55 12 (.slice p x.ops.length c) x.ops.length (enCells l)
 map:l.map (·.x)=x.ops
 pa:∀ e,e ∈ l→Pa w e.x e.q e.c
 far:∀ e,e ∈ l→Far R (Value.slice p x.ops.length c) e.x e.q
theorem Grow.start {w:World} {R:Nat} {r s t:Int} (h:AgAt w R #[.int .i64 r,.int .i64 s,.int .i64 t,.slice none 0 0]):Grow R ⟨r,s,t,[]⟩ [] none 0 w :=
 ⟨h,World.ownsRow_nil w _ _ _,rfl,fun _ h=>(by cases h),fun _ h=>(by cases h)⟩
theorem own_belowK {w w':World} {B k:Nat} {v:Value} {n:Nat} {xs:List Value} {E:TypeId} (h:w.ownsRow B E k v n xs) (hb:Below w.heap.size w w'):w'.ownsRow B E k v n xs :=
 h.kept (row:=none) ⟨hb.os,hb.tape,hb.output,hb.size,fun k hk _=>hb.block k hk⟩ (by cases hv:v.ownBlock <;> simp)
theorem Grow.kept {w w':World} {R:Nat} {x:Bat} {l:List En} {p:Option Addr} {c:Nat} (h:Grow R x l p c w) (hb:Below w.heap.size w w'):Grow R x l p c w' :=
 ⟨AgAt.kept h.at_ hb,own_belowK h.own hb,h.map,fun e he=>(h.pa e he).kept hb,h.far⟩
theorem Pa.only {w w':World} {x:Opp} {q:Option Addr} {c b:Nat} (h:Pa w x q c) (ho:Only b w w') (hne:0<x.path.length→∀ a,q=some a→a.block≠b):Pa w' x q c:=by
 refine ⟨fun h0=>?_,h.nil,h.cap⟩
 obtain ⟨k,o,rfl,hc⟩:=h.rd h0
 rw [stCells_length] at h0
 refine ⟨k,o,rfl,fun i u hu=>?_⟩
 have:=hc i u hu
 rw [World.cell?_of_block (w:=w) (ho.block k (cell_lt this) (by simpa using hne (by omega) _ rfl))]
 exact this
theorem Grow.only {w w':World} {R b:Nat} {x:Bat} {l:List En} {p:Option Addr} {c:Nat} (h:Grow R x l p c w) (ho:Only b w w') (hb:b<R):Grow R x l p c w' :=
 ⟨AgAt.only h.at_ ho (by omega),World.ownsRow.kept (row:=some b) h.own ho (by
  cases hv:(Value.slice p x.ops.length c).ownBlock with
  | none=>simp
  | some g=>have:=(World.ownsRow.lt h.own g hv).1; simp; omega),h.map,fun e he=>(h.pa e he).only ho (fun h0 a ha=>by have:=(h.far e he h0 a ha).1; omega),h.far⟩
theorem Grow.os {w:World} {R:Nat} {x:Bat} {l:List En} {p:Option Addr} {c:Nat} (h:Grow R x l p c w):Os w p c l x.ops:=by
 obtain ⟨p',c',e,h1,h2,-,h3,-⟩:=own_rd h.own
 cases e
 exact ⟨h.map,h1,h.pa,h3,h2⟩
theorem Grow.bops {w:World} {R:Nat} {x:Bat} {l:List En} {p:Option Addr} {c:Nat} (h:Grow R x l p c w):Bops w x p c:=⟨l,h.os⟩
def BopsN (B:Nat) (w:World) (x:Bat) (p:Option Addr) (c:Nat):Prop :=
 ∃ l,Os w p c l x.ops∧(0<x.ops.length→∀ a,p=some a→B≤a.block)∧∀ e,e ∈ l→0<e.x.path.length→∀ a,e.q=some a→B≤a.block
theorem BopsN.bops {B:Nat} {w:World} {x:Bat} {p:Option Addr} {c:Nat} (h:BopsN B w x p c):Bops w x p c:=⟨_,h.choose_spec.1⟩
theorem BopsN.zero (B:Nat) (w:World):BopsN B w Bat.zero none 0:=⟨[],Os.empty w,fun h=>(by cases h),fun _ h=>(by cases h)⟩
theorem BopsN.mono {B B':Nat} {w:World} {x:Bat} {p:Option Addr} {c:Nat} (h:BopsN B w x p c) (hB:B'≤B):BopsN B' w x p c:=by
 obtain ⟨l,h1,h2,h3⟩:=h
 exact ⟨l,h1,fun h0 a ha=>Nat.le_trans hB (h2 h0 a ha),fun e he h0 a ha=>Nat.le_trans hB (h3 e he h0 a ha)⟩
theorem BopsN.only {B k:Nat} {w w':World} {x:Bat} {p:Option Addr} {c:Nat} (h:BopsN B w x p c) (ho:Only k w w') (hk:k<B):BopsN B w' x p c:=by
 obtain ⟨l,h1,h2,h3⟩:=h
 refine ⟨l,⟨h1.map,fun h0=>?_,fun e he=>(h1.pa e he).only ho (fun h0 a ha=>by have:=h3 e he h0 a ha; omega),h1.nil,h1.cap⟩,h2,h3⟩
 obtain ⟨b,o,rfl,hc⟩:=h1.rd h0
 rw [enCells_length,h1.len] at h0
 refine ⟨b,o,rfl,fun i u hu=>?_⟩
 have hcc:=hc i u hu
 rw [World.cell?_of_block (w:=w) (ho.block b (cell_lt hcc) (by have:=h2 (by omega) _ rfl; simp only at this; simp; omega))]
 exact hcc
theorem BopsN.kept {B:Nat} {w w':World} {x:Bat} {p:Option Addr} {c:Nat} (h:BopsN B w x p c) (hb:Below w.heap.size w w'):BopsN B w' x p c:=by
 obtain ⟨l,h1,h2,h3⟩:=h
 exact ⟨l,h1.kept hb,h2,h3⟩
theorem Grow.bopsN {w:World} {R B:Nat} {x:Bat} {l:List En} {p:Option Addr} {c:Nat} (h:Grow R x l p c w) (hB:B≤R):BopsN B w x p c:=by
 refine ⟨l,h.os,fun _ a ha=>?_,fun e he h0 a ha=>by have:=(h.far e he h0 a ha).1; omega⟩
 obtain ⟨p',c',e,-,-,-,-,h4⟩:=own_rd h.own
 cases e
 have:=(h4 a ha).1
 omega
theorem only_of {w w':World} {k:Nat} (hko:∀ j,j≠k→w'.heap[j]?=w.heap[j]?) (hsz:w'.heap.size=w.heap.size) (hbn:∀ B w0,Below B w0 w→B≤k→Below B w0 w'):Only k w w':=by
 have hb0:=hbn 0 _ (Below.refl 0 w) (Nat.zero_le _)
 exact ⟨hb0.os,hb0.tape,hb0.output,by rw [hsz]; exact Nat.le_refl _,fun j _ hk=>hko j (by simpa using hk)⟩
theorem Grow.grown {w w':World} {R:Nat} {x:Bat} {l:List En} {p p':Option Addr} {c c':Nat} {y:Opp} {q:Option Addr} {k:Nat} (h:Grow R x l p c w)
  (hp:Pa w y q k) (hq:Far R (Value.slice p x.ops.length c) y q)
  (ho:w'.ownsRow (R+1) 55 12 (.slice p' (x.ops.length+1) c') (x.ops.length+1) (enCells l ++ opL y q k)) (hg:w.grownBy w' (Value.slice p x.ops.length c).ownBlock)
  (hw:∀ g,(Value.slice p' (x.ops.length+1) c').ownBlock=some g→(Value.slice p x.ops.length c).ownBlock=some g∨w.heap.size≤g) :
  Grow R { x with ops:=x.ops ++ [y] } (l ++ [⟨y,q,k⟩]) p' c' (w'.setCell ⟨R,3,none⟩ (.slice p' (x.ops.length+1) c'))∧Below R w (w'.setCell ⟨R,3,none⟩ (.slice p' (x.ops.length+1) c'))∧BtAt w' R x p c:=by
 have hR:=AgAt.lt h.at_
 have hne:(Value.slice p x.ops.length c).ownBlock≠some R:=fun e=>by have:=(World.ownsRow.lt h.own R e).1; omega
 have ha':BtAt w' R x p c:=AgAt.block h.at_ (hg.block R hR (fun e=>hne e.symm))
 have hl:(x.ops ++ [y]).length=x.ops.length+1:=by simp
 have hset:∀ k,k≠R→(w'.setCell ⟨R,3,none⟩ (.slice p' (x.ops.length+1) c')).heap[k]?=w'.heap[k]?:=fun k hk=>heap_setCell_other w' ⟨R,3,none⟩ k _ hk
 have hsz:(w'.setCell ⟨R,3,none⟩ (.slice p' (x.ops.length+1) c')).heap.size=w'.heap.size:=by simp
 have hblk:∀ k,k<w.heap.size→k≠R→(Value.slice p x.ops.length c).ownBlock≠some k→(w'.setCell ⟨R,3,none⟩ (.slice p' (x.ops.length+1) c')).heap[k]?=w.heap[k]?:=fun k h1 h2 h3 =>
  (hset k h2).trans (hg.block k h1 (fun e=>h3 e.symm))
 have hpa:∀ (y:Opp) (q:Option Addr) (k:Nat),Pa w y q k→Far R (Value.slice p x.ops.length c) y q→Pa (w'.setCell ⟨R,3,none⟩ (.slice p' (x.ops.length+1) c')) y q k:=fun y q k h1 h2=>by
  refine ⟨fun h0=>?_,h1.nil,h1.cap⟩
  obtain ⟨b,o,rfl,hc⟩:=h1.rd h0
  rw [stCells_length] at h0
  refine ⟨b,o,rfl,fun i u hu=>?_⟩
  have hcc:=hc i u hu
  have h3:=h2 (by omega) _ rfl
  rw [World.cell?_of_block (w:=w) (hblk b (cell_lt hcc) (by have:=h3.1; simp only at this; omega) h3.2)]
  exact hcc
 have hfar:∀ (y:Opp) (q:Option Addr) (k:Nat),Pa w y q k→Far R (Value.slice p x.ops.length c) y q→Far R (Value.slice p' (x.ops.length+1) c') y q:=fun y q k h1 h2 h0 a ha=>by
  refine ⟨(h2 h0 a ha).1,fun hh=>?_⟩
  rcases hw _ hh with h3 | h3
  ·exact (h2 h0 a ha).2 h3
  ·obtain ⟨b,o,e1,e2⟩:=h1.rd.addr (by rw [stCells_length]; omega)
   rw [ha] at e1
   cases e1
   simp only at h3
   omega
 refine ⟨⟨?_,?_,?_,?_,?_⟩,?_,ha'⟩
 ·have:=AgAt.put ha' 3 (.slice p' (x.ops.length+1) c')
  have e:(btA x p c).setIfInBounds 3 (.slice p' (x.ops.length+1) c')=btA { x with ops:=x.ops ++ [y] } p' c':=by
   unfold btA; simp
  rw [e] at this
  exact this
 ·dsimp only
  rw [hl,enCells_append,enCells_sing]
  exact World.ownsRow.kept (row:=some R) ho ⟨rfl,rfl,rfl,by simp,fun k _ hk=>hset k (by simpa using fun e=>hk (by rw [e]))⟩ (by
   cases hv:(Value.slice p' (x.ops.length+1) c').ownBlock with
   | none=>simp
   | some g=>have:=(World.ownsRow.lt ho g hv).1; simp; omega)
 ·rw [List.map_append,h.map]; rfl
 ·intro e he
  rcases List.mem_append.1 he with he | he
  ·exact hpa _ _ _ (h.pa e he) (h.far e he)
  ·obtain rfl:e=⟨y,q,k⟩:=by simpa using he
   exact hpa _ _ _ hp hq
 ·intro e he
  dsimp only
  rw [hl]
  rcases List.mem_append.1 he with he | he
  ·exact hfar _ _ _ (h.pa e he) (h.far e he)
  ·obtain rfl:e=⟨y,q,k⟩:=by simpa using he
   exact hfar _ _ _ hp hq
 ·exact ⟨hg.os,hg.tape,hg.output,Nat.le_trans hg.size (by simp),fun k hk=>hblk k (by omega) (by omega) (fun e=>by have:=(World.ownsRow.lt h.own k e).1; omega)⟩
open Go.RowKit
def smallO (x:Opp):Bool:=decide (x.path.length≤50) && decide (x.key.size≤500) && decide (x.vt.size≤500)
def lightT (x:Bat):Bool:=x.ops.all smallO && decide (x.ops.length≤70)
theorem smallO_iff {x:Opp}:smallO x=true↔x.path.length≤50∧x.key.size≤500∧x.vt.size≤500:=by
 simp only [smallO,Bool.and_eq_true,decide_eq_true_eq,and_assoc]
theorem light_szs {x:Bat} (h:lightT x=true):Szs x.ops:=by
 simp only [lightT,Bool.and_eq_true,decide_eq_true_eq,List.all_eq_true] at h
 exact ⟨fun y hy=>by have:=smallO_iff.1 (h.1 y hy); exact ⟨by omega,by omega,by omega⟩,by omega⟩
theorem light_path {x:Bat} (h:lightT x=true):∀ y,y ∈ x.ops→y.path.length≤50:=by
 simp only [lightT,Bool.and_eq_true,decide_eq_true_eq,List.all_eq_true] at h
 exact fun y hy=>(smallO_iff.1 (h.1 y hy)).1
theorem light_len {x:Bat} (h:lightT x=true):x.ops.length≤70:=by
 simp only [lightT,Bool.and_eq_true,decide_eq_true_eq] at h
 exact h.2
theorem light_small {x:Bat} {k:Nat} (hk:k<x.ops.length) (h:smallO (opOf x.ops k)=false):lightT x=false:=by
 unfold lightT; rw [all_no hk h,Bool.false_and]
theorem light_big {x:Bat} (h:70<x.ops.length):lightT x=false:=by
 unfold lightT; rw [decide_eq_false (by omega),Bool.and_false]
theorem light_yes {x:Bat} (h:x.ops.length≤70) (hs:∀ j,j<x.ops.length→smallO (opOf x.ops j)=true):lightT x=true:=by
 unfold lightT; rw [all_yes hs,decide_eq_true h]; rfl
theorem Os.parts {w:World} {b o c:Nat} {l:List En} {ops:List Opp} (h:Os w (some ⟨b,o,none⟩) c l ops) {k:Nat} (hk:k<ops.length) :
  w.cell? ⟨b,o+k * 12+6,none⟩=some (.slice (enOf l k).q (opOf ops k).path.length (enOf l k).c)∧w.cell? ⟨b,o+k * 12+5,none⟩=some (.string (opOf ops k).key)∧w.cell? ⟨b,o+k * 12+10,none⟩=some (.string (opOf ops k).vt):=by
 have h1:=h.rd.en k (by rw [h.len]; exact hk)
 rw [h.x k] at h1
 exact ⟨h1 6 _ rfl,h1 5 _ rfl,h1 10 _ rfl⟩
theorem light_any (x:Bat) (p:Option Addr) (c:Nat) (w:World) (h:Bops w x p c):Calls Tryz.prog 26 #[.agg (btA x p c)] w fun e w'=>e=.returned (.bool (lightT x))∧Below w.heap.size w w':=by
 obtain ⟨l,h⟩:=h
 have HX:=Hi (AgAt.new w (btA x p c) 43)
 have HB:=Hi ((Below.refl w.heap.size w).alloc (Nat.le_refl _) (.cells (btA x p c) 43))
 have HOS:=Hi (h.kept HB.out)
 clear h
 go_enter Tryz.func26,Tryz.ntmps26
 go_wp2
 go_loopw [3] (fun i wr=>∃ k:Nat,k≤x.ops.length∧i=.int .i64 (k:Int)∧(∀ j,j<k→smallO (opOf x.ops j)=true)∧BtAt wr w.heap.size x p c∧Os wr p c l x.ops∧Below w.heap.size w wr) (fun i _=>x.ops.length - (intOf i).toNat)
 case atStart=>exact ⟨0,Nat.zero_le _,rfl,fun j hj=>absurd hj (Nat.not_lt_zero _),HX.out,HOS.out,HB.out⟩
 case round =>
  clear HX HB HOS
  obtain ⟨k,hk,rfl,ho,hx,hos,hbw⟩:=hrel
  have HO:=Hi ho
  have HX:=Hi hx
  have HOS:=Hi hos
  have HBW:=Hi hbw
  clear ho hx hos hbw
  obtain ⟨x0,x1,x2,x3⟩:=BtAt.cells HX.out
  by_cases hlt:k<x.ops.length
  ·have d0:decide ((k:Int)<(x.ops.length:Int))=true:=decide_eq_true (by omega)
   by_cases h80:k<80
   ·have d1:decide ((k:Int)<80)=true:=decide_eq_true (by omega)
    obtain ⟨b,o,rfl,hb⟩:=HOS.out.rd.addr (by rw [enCells_length,HOS.out.len]; omega)
    obtain ⟨c6,c5,c10⟩:=HOS.out.parts hlt
    have HNO:=Hi (fun hh=>light_small (x:=x) hlt hh)
    have HST:=Hi (show smallO (opOf x.ops k)=true→∀ j,j<k+1→smallO (opOf x.ops j)=true from fun he j hj=>by
     rcases Nat.lt_or_ge j k with e | e
     ·exact HO.out j e
     ·obtain rfl:j=k:=by omega
      exact he)
    have HSM:=Hi (smallO_iff (x:=opOf x.ops k))
    have HSF:=Hi (show ¬ ((opOf x.ops k).path.length≤50∧(opOf x.ops k).key.size≤500∧(opOf x.ops k).vt.size≤500)→smallO (opOf x.ops k)=false from fun hh=>by
     cases hs:smallO (opOf x.ops k)
     ·rfl
     ·exact absurd (smallO_iff.1 hs) hh)
    generalize (opOf x.ops k).path.length=n1 at *
    generalize (opOf x.ops k).key=s1 at *
    generalize (opOf x.ops k).vt=s2 at *
    by_cases g1:50<n1
    ·have e1:decide ((50:Int)<(n1:Int))=true:=decide_eq_true (by omega)
     have HR:=Hi (HNO.out (HSF.out (by omega)))
     generalize x.ops.length=n at *
     go_wp2
     go_ret
     exact ⟨ret_b HR.out.symm,HBW.out⟩
    ·have e1:decide ((50:Int)<(n1:Int))=false:=decide_eq_false (by omega)
     by_cases g2:500<s1.size
     ·have e2:decide ((500:Int)<(s1.size:Int))=true:=decide_eq_true (by omega)
      have HR:=Hi (HNO.out (HSF.out (by omega)))
      generalize x.ops.length=n at *
      go_wp2
      go_ret
      exact ⟨ret_b HR.out.symm,HBW.out⟩
     ·have e2:decide ((500:Int)<(s1.size:Int))=false:=decide_eq_false (by omega)
      by_cases g3:500<s2.size
      ·have e3:decide ((500:Int)<(s2.size:Int))=true:=decide_eq_true (by omega)
       have HR:=Hi (HNO.out (HSF.out (by omega)))
       generalize x.ops.length=n at *
       go_wp2
       go_ret
       exact ⟨ret_b HR.out.symm,HBW.out⟩
      ·have e3:decide ((500:Int)<(s2.size:Int))=false:=decide_eq_false (by omega)
       have HR:=Hi (HST.out (HSM.out.2 ⟨by omega,by omega,by omega⟩))
       clear HNO HST HSM HSF
       go_wp2
       go_roundw
       case rel=>exact ⟨k+1,by omega,by go_num,HR.out,HX.out,HOS.out,HBW.out⟩
       case measure=>simp [intOf]; omega
   ·have d1:decide ((k:Int)<80)=false:=decide_eq_false (by omega)
    have HR:=Hi (light_big (x:=x) (by omega))
    have d2:decide ((x.ops.length:Int)≤70)=false:=decide_eq_false (by omega)
    generalize x.ops.length=n at *
    go_wp2
    go_ret
    exact ⟨ret_b HR.out.symm,HBW.out⟩
  ·obtain rfl:k=x.ops.length:=by omega
   have d0:decide ((x.ops.length:Int)<(x.ops.length:Int))=false:=decide_eq_false (by omega)
   by_cases h70:x.ops.length≤70
   ·have d2:decide ((x.ops.length:Int)≤70)=true:=decide_eq_true (by omega)
    have HR:=Hi (light_yes h70 HO.out)
    clear HO HOS
    generalize x.ops.length=n at *
    go_wp2
    go_ret
    exact ⟨ret_b HR.out.symm,HBW.out⟩
   ·have d2:decide ((x.ops.length:Int)≤70)=false:=decide_eq_false (by omega)
    have HR:=Hi (light_big (x:=x) (by omega))
    clear HO HOS
    generalize x.ops.length=n at *
    go_wp2
    go_ret
    exact ⟨ret_b HR.out.symm,HBW.out⟩
structure OwX (w0:World) (X:Nat) (x:Bat) (p:Option Addr) (c:Nat) (w:World):Prop where
 at_:BtAt w X x p c
 below:Below w0.heap.size w0 w
structure OwB (w0:World) (X R0 R1:Nat) (x:Bat) (p:Option Addr) (c:Nat) (y:Bat) (l:List En) (p':Option Addr) (c':Nat) (w:World):Prop where
 hX:w0.heap.size≤X
 hR0:X<R0
 hR1:R0<R1
 ox:OwX w0 X x p c w
 res:AgAt w R0 (btA Bat.zero none 0)
 row:Grow R1 y l p' c' w
section
variable {w0 w w':World} {X R0 R1:Nat} {x y z:Bat} {p p' p2:Option Addr} {c c' c2:Nat} {l l2:List En}
theorem OwB.kept (h:OwB w0 X R0 R1 x p c y l p' c' w) (hb:Below w.heap.size w w'):OwB w0 X R0 R1 x p c y l p' c' w' :=
 {h with ox:=⟨AgAt.kept h.ox.at_ hb,h.ox.below.trans (hb.mono h.ox.below.size)⟩,res:=h.res.kept hb,row:=h.row.kept hb }
theorem OwB.put (h:OwB w0 X R0 R1 x p c y l p' c' w) (hg:Grow R1 z l2 p2 c2 w') (hb:Below R1 w w'):OwB w0 X R0 R1 x p c z l2 p2 c2 w':=by
 have h1:=h.hX; have h2:=h.hR0; have h3:=h.hR1
 exact { h with ox:=⟨AgAt.below h.ox.at_ hb (by omega),h.ox.below.trans (hb.mono (by omega))⟩,res:=h.res.below hb (by omega),row:=hg }
theorem OwX.grown (h:OwB w0 X R0 R1 x p c y l p' c' w) (hg:w.grownBy w' (Value.slice p' y.ops.length c').ownBlock):OwX w0 X x p c w':=by
 have h1:=h.hX; have h2:=h.hR0; have h3:=h.hR1
 have hb:Below (R1+1) w w':=⟨hg.os,hg.tape,hg.output,hg.size,fun k hk=>hg.block k (by have:=AgAt.lt h.row.at_; omega) (fun e=>by have:=(World.ownsRow.lt h.row.own k e.symm).1; omega)⟩
 exact ⟨AgAt.below h.ox.at_ hb (by omega),h.ox.below.trans (hb.mono (by omega))⟩
end
theorem bown_any (x:Bat) (p:Option Addr) (c:Nat) (w:World) (h:Bops w x p c) (hl:x.ops.length≤5000) (hp:∀ y,y ∈ x.ops→y.path.length≤5000):Calls Tryz.prog 10 #[.agg (btA x p c)] w
  fun e w'=>∃ p' c',e=.returned (.agg (btA x p' c'))∧BopsN w.heap.size w' x p' c'∧Below w.heap.size w w':=by
 obtain ⟨i0,hi,hz0,hz1,hz2⟩:=info_parts oinfo_op
 obtain ⟨l0,h⟩:=h
 have hb1:=(Below.refl w.heap.size w).alloc (Nat.le_refl _) (.cells (btA x p c) 43)
 have hb2:=(Below.refl (w.alloc (.cells (btA x p c) 43)).heap.size _).alloc (Nat.le_refl _) (.cells #[.int .i64 0,.int .i64 0,.int .i64 0,.slice none 0 0] 39)
 have HX:=Hi (show BtAt ((w.alloc (.cells (btA x p c) 43)).alloc (.cells #[.int .i64 0,.int .i64 0,.int .i64 0,.slice none 0 0] 39)) w.heap.size x p c from (AgAt.new w _ _).kept hb2)
 have HOS:=Hi (fun W (hb:Below w.heap.size w W)=>h.kept hb)
 obtain ⟨x0,x1,x2,x3⟩:=BtAt.cells HX.out
 have T:=Hi (show OwB w w.heap.size (w.heap.size+1) (w.heap.size+2) x p c ⟨x.r,x.s,x.t,[]⟩ [] none 0 (((w.alloc (.cells (btA x p c) 43)).alloc (.cells #[.int .i64 0,.int .i64 0,.int .i64 0,.slice none 0 0] 39)).alloc (.cells #[.int .i64 x.r,.int .i64 x.s,.int .i64 x.t,.slice none 0 0] 39)) from by
  have k1:=AgAt.new (w.alloc (.cells (btA x p c) 43)) #[.int .i64 0,.int .i64 0,.int .i64 0,.slice none 0 0] 39
  have e1:(w.alloc (.cells (btA x p c) 43)).heap.size=w.heap.size+1:=by simp
  rw [e1] at k1
  generalize hw2:(w.alloc (.cells (btA x p c) 43)).alloc (.cells #[.int .i64 0,.int .i64 0,.int .i64 0,.slice none 0 0] 39)=W2 at *
  have e2:W2.heap.size=w.heap.size+2:=by rw [← hw2]; simp
  have k2:=AgAt.new W2 #[.int .i64 x.r,.int .i64 x.s,.int .i64 x.t,.slice none 0 0] 39
  rw [e2] at k2
  have hb3:=(Below.refl W2.heap.size W2).alloc (Nat.le_refl _) (.cells #[.int .i64 x.r,.int .i64 x.s,.int .i64 x.t,.slice none 0 0] 39)
  exact ⟨Nat.le_refl _,by omega,by omega,⟨AgAt.kept HX.out hb3,(hb1.trans (hb2.mono (by simp))).trans (hb3.mono (by omega))⟩,k1.kept hb3,Grow.start k2⟩)
 clear h hb1 hb2 HX
 go_enter Tryz.func10,Tryz.ntmps10
 go_wp2
 go_loopw [4] (fun i wr=>∃ (k:Nat) (l:List En) (p':Option Addr) (c':Nat),k≤x.ops.length∧i=.int .i64 (k:Int)∧OwB w w.heap.size (w.heap.size+2 - 1) (w.heap.size+2) x p c ⟨x.r,x.s,x.t,x.ops.take k⟩ l p' c' wr) (fun i _=>x.ops.length - (intOf i).toNat)
 case atStart=>exact ⟨0,[],none,0,Nat.zero_le _,rfl,T.out⟩
 case round =>
  clear T x0 x1 x2 x3
  obtain ⟨k,l,p',c',hk,rfl,ht⟩:=hrel
  rw [show w.heap.size+2 - 1=w.heap.size+1 from rfl] at *
  have T:=Hi ht
  clear ht
  obtain ⟨x0,x1,x2,x3⟩:=BtAt.cells T.out.ox.at_
  by_cases hlt:k<x.ops.length
  ·have HTK:=Hi (take_succ_op x.ops k hlt)
   have HTL:=Hi (show (x.ops.take k).length=k by rw [List.length_take]; omega)
   obtain ⟨b,o,rfl,hb⟩:=(HOS.out _ T.out.ox.below).rd.addr (by rw [enCells_length,(HOS.out _ T.out.ox.below).len]; omega)
   have HLL:=Hi (show k<l0.length by rw [(HOS.out _ T.out.ox.below).len]; exact hlt)
   have HXK:=Hi ((HOS.out _ T.out.ox.below).x k)
   have HOW:=Hi (fun W (hb:Below w.heap.size w W)=>ownN_any (opOf x.ops k) (enOf l0 k).q (enOf l0 k).c W ((HOS.out _ hb).paOf hlt) (hp _ (opOf_mem hlt)))
   have hd0:decide ((k:Int)<(x.ops.length:Int))=true:=decide_eq_true (by omega)
   replace T:=Hi (T.out.kept (Below.drew (Below.refl _ _)))
   generalize x.ops.take k=tk at *
   go_upto_region 5 with fail
   refine wp_region_held_drew (S:=OwX w w.heap.size x (some ⟨b,o,none⟩) c) (by kernel_rfl) T.out.ox (fun hS=>?_)
   clear x0 x1 x2 x3
   generalize wr.drew=w1 at *
   generalize opOf x.ops k=y at *
   refine tX 0 rfl hS ?_
   refine tX 2 rfl hS ?_
   refine tK 3 (v:=?_) rfl ?_ hS ?_
   rotate_left
   ·intro W hSW
    obtain ⟨x0,x1,x2,x3⟩:=BtAt.cells hSW.at_
    go_simp
    all_goals with_reducible rfl
   go_simp
   refine tX 4 rfl hS ?_
   refine tX 5 rfl hS ?_
   refine tK 6 (v:=.agg (opA (enOf l0 k).x (enOf l0 k).q (enOf l0 k).c)) rfl (fun W hSW=>exec_load_en otR rfl rfl l0 (HOS.out W hSW.below).rd HLL.out) hS ?_
   rw [HXK.out]
   go_simp
   refine wpAnyH_ready (rs:=[1,7]) (by kernel_rfl) (by simp) ?_
   refine AllReadyH.cons rfl (fun K hK=>?_) (AllReadyH.cons rfl (fun K hK=>?_) AllReadyH.nil)
   ·have y3:=(BtAt.cells T.out.row.at_).2.2.2
    dsimp only at y3
    go_simp
    refine hK.out _ _ T.out.ox (fun hS=>?_)
    clear hK K y3
    refine rD 7 rfl (fun K hK=>?_)
    go_simp
    go_wp2_with ((go_at_call 37; refine (HOW.out _ T.out.ox.below).mono ?_; rintro e w2 ⟨q2,c2,rfl,hp2,hb2,hn2⟩))
    have HN2:=Hi (show Far (w.heap.size+2) (Value.slice p' tk.length c') y q2 from fun _ a ha=>by
     have h1:=hn2 a ha
     have h2:=AgAt.lt T.out.row.at_
     refine ⟨by omega,fun hh=>?_⟩
     have:=(World.ownsRow.lt T.out.row.own a.block hh).2
     omega)
    replace T:=Hi (T.out.kept hb2)
    have HP2:=Hi hp2
    clear hb2 hn2 hp2
    refine hK.out _ _ T.out.ox (fun hS=>?_)
    clear hK K
    refine rD 8 rfl (fun K hK=>?_)
    have hb3:=(Below.refl w2.heap.size w2).alloc (Nat.le_refl _) (.cells (opA y q2 c2) 55)
    replace T:=Hi (T.out.kept hb3)
    have HP3:=Hi (HP2.out.kept hb3)
    have HRW:=Hi (rd_op_one w2 y q2 c2 55)
    clear hb3
    refine step_build_op (by kernel_rfl) _ rfl y q2 c2 rfl ?_
    refine hK.out _ _ T.out.ox (fun hS=>?_)
    clear hK K
    generalize w2.alloc (.cells (opA y q2 c2) 55)=w3 at *
    refine rD 9 rfl (fun K hK=>?_)
    refine step_append_kN (by kernel_rfl) _ _ 37 rfl (w.heap.size+2+1) 55 i0 _ 12 128 Tryz.underlying37 hi hz0 hz1 (by decide) hz2 (by decide) rfl _ tk.length (enCells l) rfl T.out.row.own _ 1 1 (opL y q2 c2) rfl rfl HRW.out (fun h=>by cases h) (opL_one y q2 c2) (by have:=HTL.out; omega) (by have:=AgAt.lt T.out.row.at_; omega) ?_
    intro p4 c4 w4 ho4 hg4 hw4
    have HG:=Hi (T.out.row.grown HP3.out HN2.out ho4 hg4 hw4)
    have HO4:=Hi (OwX.grown T.out hg4)
    clear ho4 hg4 hw4
    refine hK.out _ _ HO4.out (fun hS=>?_)
    clear hK K
    refine tX 10 rfl hS ?_
    go_simp
    refine rD 11 rfl (fun K hK=>?_)
    have y3:=(BtAt.cells HG.out.2.2).2.2.2
    have yf:=AgAt.free HG.out.2.2 3
    dsimp only at y3
    replace T:=Hi (T.out.put HG.out.1 HG.out.2.1)
    go_simp
    refine hK.out _ _ T.out.ox (fun hS=>?_)
    clear hK K y3 yf
    refine wpAnyH_done (by kernel_rfl) ?_ _
    go_simp
    generalize w4.setCell ⟨w.heap.size+2,3,none⟩ (.slice p4 (tk.length+1) c4)=w5 at *
    clear HG HP3 HRW HO4
    go_wp2
    go_roundw
    case rel=>exact ⟨k+1,_,_,_,by omega,by go_num,by rw [HTK.out]; exact T.out⟩
    case measure=>simp [intOf]; omega
   ·go_simp
    go_wp2_with ((go_at_call 37; refine (HOW.out _ T.out.ox.below).mono ?_; rintro e w2 ⟨q2,c2,rfl,hp2,hb2,hn2⟩))
    have HN2:=Hi (show Far (w.heap.size+2) (Value.slice p' tk.length c') y q2 from fun _ a ha=>by
     have h1:=hn2 a ha
     have h2:=AgAt.lt T.out.row.at_
     refine ⟨by omega,fun hh=>?_⟩
     have:=(World.ownsRow.lt T.out.row.own a.block hh).2
     omega)
    replace T:=Hi (T.out.kept hb2)
    have HP2:=Hi hp2
    clear hb2 hn2 hp2
    refine hK.out _ _ T.out.ox (fun hS=>?_)
    clear hK K
    refine wpAnyH_ready (rs:=[1,8]) (by kernel_rfl) (by simp) ?_
    refine AllReadyH.cons rfl (fun K hK=>?_) (AllReadyH.cons rfl (fun K hK=>?_) AllReadyH.nil)
    ·have y3:=(BtAt.cells T.out.row.at_).2.2.2
     dsimp only at y3
     go_simp
     refine hK.out _ _ T.out.ox (fun hS=>?_)
     clear hK K y3
     refine rD 8 rfl (fun K hK=>?_)
     have hb3:=(Below.refl w2.heap.size w2).alloc (Nat.le_refl _) (.cells (opA y q2 c2) 55)
     replace T:=Hi (T.out.kept hb3)
     have HP3:=Hi (HP2.out.kept hb3)
     have HRW:=Hi (rd_op_one w2 y q2 c2 55)
     clear hb3
     refine step_build_op (by kernel_rfl) _ rfl y q2 c2 rfl ?_
     refine hK.out _ _ T.out.ox (fun hS=>?_)
     clear hK K
     generalize w2.alloc (.cells (opA y q2 c2) 55)=w3 at *
     refine rD 9 rfl (fun K hK=>?_)
     refine step_append_kN (by kernel_rfl) _ _ 37 rfl (w.heap.size+2+1) 55 i0 _ 12 128 Tryz.underlying37 hi hz0 hz1 (by decide) hz2 (by decide) rfl _ tk.length (enCells l) rfl T.out.row.own _ 1 1 (opL y q2 c2) rfl rfl HRW.out (fun h=>by cases h) (opL_one y q2 c2) (by have:=HTL.out; omega) (by have:=AgAt.lt T.out.row.at_; omega) ?_
     intro p4 c4 w4 ho4 hg4 hw4
     have HG:=Hi (T.out.row.grown HP3.out HN2.out ho4 hg4 hw4)
     have HO4:=Hi (OwX.grown T.out hg4)
     clear ho4 hg4 hw4
     refine hK.out _ _ HO4.out (fun hS=>?_)
     clear hK K
     refine tX 10 rfl hS ?_
     go_simp
     refine rD 11 rfl (fun K hK=>?_)
     have y3:=(BtAt.cells HG.out.2.2).2.2.2
     have yf:=AgAt.free HG.out.2.2 3
     dsimp only at y3
     replace T:=Hi (T.out.put HG.out.1 HG.out.2.1)
     go_simp
     refine hK.out _ _ T.out.ox (fun hS=>?_)
     clear hK K y3 yf
     refine wpAnyH_done (by kernel_rfl) ?_ _
     go_simp
     generalize w4.setCell ⟨w.heap.size+2,3,none⟩ (.slice p4 (tk.length+1) c4)=w5 at *
     clear HG HP3 HRW HO4
     go_wp2
     go_roundw
     case rel=>exact ⟨k+1,_,_,_,by omega,by go_num,by rw [HTK.out]; exact T.out⟩
     case measure=>simp [intOf]; omega
    ·have hb3:=(Below.refl w2.heap.size w2).alloc (Nat.le_refl _) (.cells (opA y q2 c2) 55)
     replace T:=Hi (T.out.kept hb3)
     have HP3:=Hi (HP2.out.kept hb3)
     have HRW:=Hi (rd_op_one w2 y q2 c2 55)
     clear hb3
     refine step_build_op (by kernel_rfl) _ rfl y q2 c2 rfl ?_
     refine hK.out _ _ T.out.ox (fun hS=>?_)
     clear hK K
     generalize w2.alloc (.cells (opA y q2 c2) 55)=w3 at *
     refine rD 1 rfl (fun K hK=>?_)
     have y3:=(BtAt.cells T.out.row.at_).2.2.2
     dsimp only at y3
     go_simp
     refine hK.out _ _ T.out.ox (fun hS=>?_)
     clear hK K y3
     refine rD 9 rfl (fun K hK=>?_)
     refine step_append_kN (by kernel_rfl) _ _ 37 rfl (w.heap.size+2+1) 55 i0 _ 12 128 Tryz.underlying37 hi hz0 hz1 (by decide) hz2 (by decide) rfl _ tk.length (enCells l) rfl T.out.row.own _ 1 1 (opL y q2 c2) rfl rfl HRW.out (fun h=>by cases h) (opL_one y q2 c2) (by have:=HTL.out; omega) (by have:=AgAt.lt T.out.row.at_; omega) ?_
     intro p4 c4 w4 ho4 hg4 hw4
     have HG:=Hi (T.out.row.grown HP3.out HN2.out ho4 hg4 hw4)
     have HO4:=Hi (OwX.grown T.out hg4)
     clear ho4 hg4 hw4
     refine hK.out _ _ HO4.out (fun hS=>?_)
     clear hK K
     refine tX 10 rfl hS ?_
     go_simp
     refine rD 11 rfl (fun K hK=>?_)
     have y3:=(BtAt.cells HG.out.2.2).2.2.2
     have yf:=AgAt.free HG.out.2.2 3
     dsimp only at y3
     replace T:=Hi (T.out.put HG.out.1 HG.out.2.1)
     go_simp
     refine hK.out _ _ T.out.ox (fun hS=>?_)
     clear hK K y3 yf
     refine wpAnyH_done (by kernel_rfl) ?_ _
     go_simp
     generalize w4.setCell ⟨w.heap.size+2,3,none⟩ (.slice p4 (tk.length+1) c4)=w5 at *
     clear HG HP3 HRW HO4
     go_wp2
     go_roundw
     case rel=>exact ⟨k+1,_,_,_,by omega,by go_num,by rw [HTK.out]; exact T.out⟩
     case measure=>simp [intOf]; omega
  ·obtain rfl:k=x.ops.length:=by omega
   rw [List.take_length] at T
   have hx:=T.out.row.at_
   have hd0:decide ((x.ops.length:Int)<(x.ops.length:Int))=false:=decide_eq_false (by omega)
   go_wp2_with (first | (refine wpList_load_ag btP (by kernel_rfl) _ rfl _ rfl (A:=btA _ p' c') rfl (by assumption) ?_) | (refine wpList_store_ag btP rfl _ _ rfl _ rfl _ T.out.res rfl rfl rfl (btA_one _ _ _) ?_; intro wy hvy hko hsz hbn))
   refine bodyPost_ret (results_ag btP _ rfl rfl hvy rfl) rfl ?_
   exact ⟨p',c',rfl,(T.out.row.only (only_of hko hsz hbn) (by omega)).bopsN (by omega),hbn _ _ T.out.ox.below (by omega)⟩
end Go.Proofs.YtfgnmnkihbgjnaaGreat

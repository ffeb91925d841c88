/-
  A ROW OF OPS THAT GROWS: a batch's block whose row of ops is the call's own ('Grow'), append of an op to it.
  No conditions but sizes.
  THE LAW's HELPERS: Light (is a batch small), Own (a batch of the program's, its ops copied).
  No conditions but sizes.
  A batch's stamps: Stamp, End.
  No conditions but sizes.
  LOGS IN MEMORY: rows of batches, where their ops lie; the map of those that wait; a log's own block of seventeen cells; what keeps all of it.
  No conditions but sizes.
  COPIES: of an op, of a row of ops, of a batch, of a row of batches: none of it lies where the old one lies.
  No conditions but sizes.
-/
import Derived.Test.YthfhefdfehlbkaaGreatSh
import Derived.Test.YthfhefdfehlbkaaGreatK05
import Derived.Maps.Views
import Derived.Maps.OwnOps
import Derived.DeepKeys4
import Derived.Test.YthfhefdfehlbkaaGreatK02
set_option maxRecDepth 100000
set_option maxHeartbeats 8000000
namespace Go.Proofs.YthfhefdfehlbkaaGreat
open Go.RowKit
theorem oinfo_op:(Tryz.prog.info? 43).map (fun i=>(i.zero,i.size,i.bytes))=some (some (.agg (opA Opp.zero none 0)),12,128):=by kernel_rfl
theorem step_append_kN {P:Program} {w:World} {ops:Array Oper} {o:Oper} {a:Act} {K:Act→World→Prop} {Q:Exit→Act→World→Prop} {E:Prop} (hgd:o.guard=none) (s x:Operand) (t:TypeId)
  (ho:o.op=.call { callee:=.builtin .append,args:=#[s,x],argTypes:=#[t,t] })
  (base:Nat) (e:TypeId) (i:TypeInfo) (z:Value) (k bytes:Nat) (ht:P.underlying t=some (.slice e)) (hi:P.info? e=some i) (hz:i.zero=some z)
  (hsize:i.size=k) (hk0:0<k) (hby:i.bytes=bytes) (hb1:bytes≤1000) (hzs:z.cells.size=k)
  (v:Value) (n:Nat) (xs:List Value) (hs:a.eval s=v) (hown:w.ownsRow base e k v n xs)
  (p:Option Addr) (m c:Nat) (us:List Value) (hx:a.eval x=.slice p m c) (hus:us.length=m * k) (hrd:Rd w p us) (hpn:p=none→c=0) (h1:∀ u ∈ us,u.oneCell'=true)
  (hsz:n+m≤10000) (hbase:base≤w.heap.size)
  (h:∀ p' c' w',w'.ownsRow base e k (.slice p' (n+m) c') (n+m) (xs ++ us)→w.grownBy w' v.ownBlock→(∀ g,(Value.slice p' (n+m) c').ownBlock=some g→v.ownBlock=some g∨w.heap.size≤g)→K (a.put o.dst (.slice p' (n+m) c')) w') :
  if Region.wanted o (yielded ops a.tmps)=true then Oper.wp P o a w K Q else E:=by
 have hw:Region.wanted o (yielded ops a.tmps)=true:=by simp [Region.wanted,hgd]
 rw [if_pos hw]
 obtain ⟨v',w',hr,h2,h3,h4⟩:=run_append_k (P:=P) w base t o.type e i z k bytes ht hi hz hsize hk0 hby (by omega) hzs v n xs hown p m c us hus hrd hpn h1
  (Nat.le_trans (Nat.mul_le_mul hsz hb1) (by decide)) (by unfold maxLen; omega) hbase
 obtain ⟨p',c',rfl,-⟩:=own_rd h2
 unfold Oper.wp execOp
 simp only [ho,resolve,invoke,builtin,Sem.run_bind,Sem.run_pure,Result.andThen_ok,List.map_toArray,List.map_cons,List.map_nil,hs,hx,hr]
 exact h p' c' w' h2 h3 h4
theorem rd_op_one (w:World) (x:Opp) (q:Option Addr) (c:Nat) (E:TypeId):Rd (w.alloc (.cells (opA x q c) E)) (some ⟨w.heap.size,0,none⟩) (opL x q c):=fun _=>⟨_,0,rfl,fun i u hu=>by
 rw [Nat.zero_add,World.cell?_alloc_at _ _ _ _ rfl,← hu]
 simp [opA]⟩
theorem opL_one (x:Opp) (q:Option Addr) (c:Nat):∀ u ∈ opL x q c,u.oneCell'=true:=by
 intro u hu
 have:=enCells_one (l:=[⟨x,q,c⟩]) u
 rw [enCells_sing] at this
 exact this hu
theorem run_build_op (w:World) (y:Opp) (q:Option Addr) (c:Nat):(Instr.buildSlice 79 1 #[(0,.agg (opA y q c))]).run Tryz.prog w=.ok (.slice (some ⟨w.heap.size,0,none⟩) 1 1) (w.alloc (.cells (opA y q c) 43)):=by kernel_rfl
theorem step_build_op {w:World} {ops:Array Oper} {o:Oper} {a:Act} {K:Act→World→Prop} {Q:Exit→Act→World→Prop} {E:Prop} (hgd:o.guard=none) (x:Operand) (ho:o.op=.buildSlice 79 1 #[(0,x)]) (y:Opp) (q:Option Addr) (c:Nat) (hx:a.eval x=.agg (opA y q c))
  (h:K (a.put o.dst (.slice (some ⟨w.heap.size,0,none⟩) 1 1)) (w.alloc (.cells (opA y q c) 43))):if Region.wanted o (yielded ops a.tmps)=true then Oper.wp Tryz.prog o a w K Q else E:=by
 have hw:Region.wanted o (yielded ops a.tmps)=true:=by simp [Region.wanted,hgd]
 rw [if_pos hw]
 unfold Oper.wp execOp
 simp only [ho,Sem.run_bind,Sem.run_pure,Result.andThen_ok,List.map_toArray,List.map_cons,List.map_nil,hx,run_build_op]
 exact h
def Far (R:Nat) (v:Value) (x:Opp) (q:Option Addr):Prop:=0<x.path.length→∀ a,q=some a→R<a.block∧v.ownBlock≠some a.block
structure Grow (R:Nat) (x:Bat) (l:List En) (p:Option Addr) (c:Nat) (w:World):Prop where
 at_:BtAt w R x p c
 own:w.ownsRow (R+1) 43 12 (.slice p x.ops.length c) x.ops.length (enCells l)
 map:l.map (·.x)=x.ops
 pa:∀ e,e ∈ l→Pa w e.x e.q e.c
 far:∀ e,e ∈ l→Far R (Value.slice p x.ops.length c) e.x e.q
theorem Grow.start {w:World} {R:Nat} {r s t:Int} (h:AgAt w R #[.int .i64 r,.int .i64 s,.int .i64 t,.slice none 0 0]):Grow R ⟨r,s,t,[]⟩ [] none 0 w :=
 ⟨h,World.ownsRow_nil w _ _ _,rfl,fun _ h=>(by cases h),fun _ h=>(by cases h)⟩
theorem own_belowK {w w':World} {B k:Nat} {v:Value} {n:Nat} {xs:List Value} {E:TypeId} (h:w.ownsRow B E k v n xs) (hb:Below w.heap.size w w'):w'.ownsRow B E k v n xs :=
 h.kept (row:=none) ⟨hb.os,hb.tape,hb.output,hb.size,fun k hk _=>hb.block k hk⟩ (by cases hv:v.ownBlock <;> simp)
theorem Grow.kept {w w':World} {R:Nat} {x:Bat} {l:List En} {p:Option Addr} {c:Nat} (h:Grow R x l p c w) (hb:Below w.heap.size w w'):Grow R x l p c w' :=
 ⟨AgAt.kept h.at_ hb,own_belowK h.own hb,h.map,fun e he=>(h.pa e he).kept hb,h.far⟩
theorem Pa.only {w w':World} {x:Opp} {q:Option Addr} {c b:Nat} (h:Pa w x q c) (ho:Only b w w') (hne:0<x.path.length→∀ a,q=some a→a.block≠b):Pa w' x q c:=by
 refine ⟨fun h0=>?_,h.nil,h.cap⟩
 obtain ⟨k,o,rfl,hc⟩:=h.rd h0
 rw [stCells_length] at h0
 refine ⟨k,o,rfl,fun i u hu=>?_⟩
 have:=hc i u hu
 rw [World.cell?_of_block (w:=w) (ho.block k (cell_lt this) (by simpa using hne (by omega) _ rfl))]
 exact this
theorem Grow.only {w w':World} {R b:Nat} {x:Bat} {l:List En} {p:Option Addr} {c:Nat} (h:Grow R x l p c w) (ho:Only b w w') (hb:b<R):Grow R x l p c w' :=
 ⟨AgAt.only h.at_ ho (by omega),World.ownsRow.kept (row:=some b) h.own ho (by
  cases hv:(Value.slice p x.ops.length c).ownBlock with
  | none=>simp
  | some g=>have:=(World.ownsRow.lt h.own g hv).1; simp; omega),h.map,fun e he=>(h.pa e he).only ho (fun h0 a ha=>by have:=(h.far e he h0 a ha).1; omega),h.far⟩
theorem Grow.os {w:World} {R:Nat} {x:Bat} {l:List En} {p:Option Addr} {c:Nat} (h:Grow R x l p c w):Os w p c l x.ops:=by
 obtain ⟨p',c',e,h1,h2,-,h3,-⟩:=own_rd h.own
 cases e
 exact ⟨h.map,h1,h.pa,h3,h2⟩
def BopsN (B:Nat) (w:World) (x:Bat) (p:Option Addr) (c:Nat):Prop :=
 ∃ l,Os w p c l x.ops∧(0<x.ops.length→∀ a,p=some a→B≤a.block)∧∀ e,e ∈ l→0<e.x.path.length→∀ a,e.q=some a→B≤a.block
theorem Grow.bopsN {w:World} {R B:Nat} {x:Bat} {l:List En} {p:Option Addr} {c:Nat} (h:Grow R x l p c w) (hB:B≤R):BopsN B w x p c:=by
 refine ⟨l,h.os,fun _ a ha=>?_,fun e he h0 a ha=>by have:=(h.far e he h0 a ha).1; omega⟩
 obtain ⟨p',c',e,-,-,-,-,h4⟩:=own_rd h.own
 cases e
 have:=(h4 a ha).1
 omega
theorem only_of {w w':World} {k:Nat} (hko:∀ j,j≠k→w'.heap[j]?=w.heap[j]?) (hsz:w'.heap.size=w.heap.size) (hbn:∀ B w0,Below B w0 w→B≤k→Below B w0 w'):Only k w w':=by
 have hb0:=hbn 0 _ (Below.refl 0 w) (Nat.zero_le _)
 exact ⟨hb0.os,hb0.tape,hb0.output,by rw [hsz]; exact Nat.le_refl _,fun j _ hk=>hko j (by simpa using hk)⟩
theorem Grow.grown {w w':World} {R:Nat} {x:Bat} {l:List En} {p p':Option Addr} {c c':Nat} {y:Opp} {q:Option Addr} {k:Nat} (h:Grow R x l p c w)
  (hp:Pa w y q k) (hq:Far R (Value.slice p x.ops.length c) y q)
  (ho:w'.ownsRow (R+1) 43 12 (.slice p' (x.ops.length+1) c') (x.ops.length+1) (enCells l ++ opL y q k)) (hg:w.grownBy w' (Value.slice p x.ops.length c).ownBlock)
  (hw:∀ g,(Value.slice p' (x.ops.length+1) c').ownBlock=some g→(Value.slice p x.ops.length c).ownBlock=some g∨w.heap.size≤g) :
  Grow R { x with ops:=x.ops ++ [y] } (l ++ [⟨y,q,k⟩]) p' c' (w'.setCell ⟨R,3,none⟩ (.slice p' (x.ops.length+1) c'))∧Below R w (w'.setCell ⟨R,3,none⟩ (.slice p' (x.ops.length+1) c'))∧BtAt w' R x p c:=by
 have hR:=AgAt.lt h.at_
 have hne:(Value.slice p x.ops.length c).ownBlock≠some R:=fun e=>by have:=(World.ownsRow.lt h.own R e).1; omega
 have ha':BtAt w' R x p c:=AgAt.block h.at_ (hg.block R hR (fun e=>hne e.symm))
 have hl:(x.ops ++ [y]).length=x.ops.length+1:=by simp
 have hset:∀ k,k≠R→(w'.setCell ⟨R,3,none⟩ (.slice p' (x.ops.length+1) c')).heap[k]?=w'.heap[k]?:=fun k hk=>heap_setCell_other w' ⟨R,3,none⟩ k _ hk
 have hsz:(w'.setCell ⟨R,3,none⟩ (.slice p' (x.ops.length+1) c')).heap.size=w'.heap.size:=by simp
 have hblk:∀ k,k<w.heap.size→k≠R→(Value.slice p x.ops.length c).ownBlock≠some k→(w'.setCell ⟨R,3,none⟩ (.slice p' (x.ops.length+1) c')).heap[k]?=w.heap[k]?:=fun k h1 h2 h3 =>
  (hset k h2).trans (hg.block k h1 (fun e=>h3 e.symm))
 have hpa:∀ (y:Opp) (q:Option Addr) (k:Nat),Pa w y q k→Far R (Value.slice p x.ops.length c) y q→Pa (w'.setCell ⟨R,3,none⟩ (.slice p' (x.ops.length+1) c')) y q k:=fun y q k h1 h2=>by
  refine ⟨fun h0=>?_,h1.nil,h1.cap⟩
  obtain ⟨b,o,rfl,hc⟩:=h1.rd h0
  rw [stCells_length] at h0
  refine ⟨b,o,rfl,fun i u hu=>?_⟩
  have hcc:=hc i u hu
  have h3:=h2 (by omega) _ rfl
  rw [World.cell?_of_block (w:=w) (hblk b (cell_lt hcc) (by have:=h3.1; simp only at this; omega) h3.2)]
  exact hcc
 have hfar:∀ (y:Opp) (q:Option Addr) (k:Nat),Pa w y q k→Far R (Value.slice p x.ops.length c) y q→Far R (Value.slice p' (x.ops.length+1) c') y q:=fun y q k h1 h2 h0 a ha=>by
  refine ⟨(h2 h0 a ha).1,fun hh=>?_⟩
  rcases hw _ hh with h3 | h3
  ·exact (h2 h0 a ha).2 h3
  ·obtain ⟨b,o,e1,e2⟩:=h1.rd.addr (by rw [stCells_length]; omega)
   rw [ha] at e1
   cases e1
   simp only at h3
   omega
 refine ⟨⟨?_,?_,?_,?_,?_⟩,?_,ha'⟩
 ·have:=AgAt.put ha' 3 (.slice p' (x.ops.length+1) c')
  have e:(btA x p c).setIfInBounds 3 (.slice p' (x.ops.length+1) c')=btA { x with ops:=x.ops ++ [y] } p' c':=by
   unfold btA; simp
  rw [e] at this
  exact this
 ·dsimp only
  rw [hl,enCells_append,enCells_sing]
  exact World.ownsRow.kept (row:=some R) ho ⟨rfl,rfl,rfl,by simp,fun k _ hk=>hset k (by simpa using fun e=>hk (by rw [e]))⟩ (by
   cases hv:(Value.slice p' (x.ops.length+1) c').ownBlock with
   | none=>simp
   | some g=>have:=(World.ownsRow.lt ho g hv).1; simp; omega)
 ·rw [List.map_append,h.map]; rfl
 ·intro e he
  rcases List.mem_append.1 he with he | he
  ·exact hpa _ _ _ (h.pa e he) (h.far e he)
  ·obtain rfl:e=⟨y,q,k⟩:=by simpa using he
   exact hpa _ _ _ hp hq
 ·intro e he
  dsimp only
  rw [hl]
  rcases List.mem_append.1 he with he | he
  ·exact hfar _ _ _ (h.pa e he) (h.far e he)
  ·obtain rfl:e=⟨y,q,k⟩:=by simpa using he
   exact hfar _ _ _ hp hq
 ·exact ⟨hg.os,hg.tape,hg.output,Nat.le_trans hg.size (by simp),fun k hk=>hblk k (by omega) (by omega) (fun e=>by have:=(World.ownsRow.lt h.own k e).1; omega)⟩
open Go.RowKit
def smallO (x:Opp):Bool:=decide (x.path.length≤50) && decide (x.key.size≤500) && decide (x.vt.size≤500)
def lightT (x:Bat):Bool:=x.ops.all smallO && decide (x.ops.length≤70)
theorem smallO_iff {x:Opp}:smallO x=true↔x.path.length≤50∧x.key.size≤500∧x.vt.size≤500:=by
 simp only [smallO,Bool.and_eq_true,decide_eq_true_eq,and_assoc]
theorem light_szs {x:Bat} (h:lightT x=true):Szs x.ops:=by
 simp only [lightT,Bool.and_eq_true,decide_eq_true_eq,List.all_eq_true] at h
 exact ⟨fun y hy=>by have:=smallO_iff.1 (h.1 y hy); exact ⟨by omega,by omega,by omega⟩,by omega⟩
theorem light_path {x:Bat} (h:lightT x=true):∀ y,y ∈ x.ops→y.path.length≤50:=by
 simp only [lightT,Bool.and_eq_true,decide_eq_true_eq,List.all_eq_true] at h
 exact fun y hy=>(smallO_iff.1 (h.1 y hy)).1
theorem light_len {x:Bat} (h:lightT x=true):x.ops.length≤70:=by
 simp only [lightT,Bool.and_eq_true,decide_eq_true_eq] at h
 exact h.2
theorem light_small {x:Bat} {k:Nat} (hk:k<x.ops.length) (h:smallO (opOf x.ops k)=false):lightT x=false:=by
 unfold lightT; rw [all_no hk h,Bool.false_and]
theorem light_big {x:Bat} (h:70<x.ops.length):lightT x=false:=by
 unfold lightT; rw [decide_eq_false (by omega),Bool.and_false]
theorem light_yes {x:Bat} (h:x.ops.length≤70) (hs:∀ j,j<x.ops.length→smallO (opOf x.ops j)=true):lightT x=true:=by
 unfold lightT; rw [all_yes hs,decide_eq_true h]; rfl
theorem Os.parts {w:World} {b o c:Nat} {l:List En} {ops:List Opp} (h:Os w (some ⟨b,o,none⟩) c l ops) {k:Nat} (hk:k<ops.length) :
  w.cell? ⟨b,o+k * 12+6,none⟩=some (.slice (enOf l k).q (opOf ops k).path.length (enOf l k).c)∧w.cell? ⟨b,o+k * 12+5,none⟩=some (.string (opOf ops k).key)∧w.cell? ⟨b,o+k * 12+10,none⟩=some (.string (opOf ops k).vt):=by
 have h1:=h.rd.en k (by rw [h.len]; exact hk)
 rw [h.x k] at h1
 exact ⟨h1 6 _ rfl,h1 5 _ rfl,h1 10 _ rfl⟩
theorem light_any (x:Bat) (p:Option Addr) (c:Nat) (w:World) (h:Bops w x p c):Calls Tryz.prog 111 #[.agg (btA x p c)] w fun e w'=>e=.returned (.bool (lightT x))∧Below w.heap.size w w':=by
 obtain ⟨l,h⟩:=h
 have HX:=Hi (AgAt.new w (btA x p c) 85)
 have HB:=Hi ((Below.refl w.heap.size w).alloc (Nat.le_refl _) (.cells (btA x p c) 85))
 have HOS:=Hi (h.kept HB.out)
 clear h
 go_enter Tryz.func111,Tryz.ntmps111
 go_wp2
 go_loopw [3] (fun i wr=>∃ k:Nat,k≤x.ops.length∧i=.int .i64 (k:Int)∧(∀ j,j<k→smallO (opOf x.ops j)=true)∧BtAt wr w.heap.size x p c∧Os wr p c l x.ops∧Below w.heap.size w wr) (fun i _=>x.ops.length - (intOf i).toNat)
 case atStart=>exact ⟨0,Nat.zero_le _,rfl,fun j hj=>absurd hj (Nat.not_lt_zero _),HX.out,HOS.out,HB.out⟩
 case round =>
  clear HX HB HOS
  obtain ⟨k,hk,rfl,ho,hx,hos,hbw⟩:=hrel
  have HO:=Hi ho
  have HX:=Hi hx
  have HOS:=Hi hos
  have HBW:=Hi hbw
  clear ho hx hos hbw
  obtain ⟨x0,x1,x2,x3⟩:=BtAt.cells HX.out
  by_cases hlt:k<x.ops.length
  ·have d0:decide ((k:Int)<(x.ops.length:Int))=true:=decide_eq_true (by omega)
   by_cases h80:k<80
   ·have d1:decide ((k:Int)<80)=true:=decide_eq_true (by omega)
    obtain ⟨b,o,rfl,hb⟩:=HOS.out.rd.addr (by rw [enCells_length,HOS.out.len]; omega)
    obtain ⟨c6,c5,c10⟩:=HOS.out.parts hlt
    have HNO:=Hi (fun hh=>light_small (x:=x) hlt hh)
    have HST:=Hi (show smallO (opOf x.ops k)=true→∀ j,j<k+1→smallO (opOf x.ops j)=true from fun he j hj=>by
     rcases Nat.lt_or_ge j k with e | e
     ·exact HO.out j e
     ·obtain rfl:j=k:=by omega
      exact he)
    have HSM:=Hi (smallO_iff (x:=opOf x.ops k))
    have HSF:=Hi (show ¬ ((opOf x.ops k).path.length≤50∧(opOf x.ops k).key.size≤500∧(opOf x.ops k).vt.size≤500)→smallO (opOf x.ops k)=false from fun hh=>by
     cases hs:smallO (opOf x.ops k)
     ·rfl
     ·exact absurd (smallO_iff.1 hs) hh)
    generalize (opOf x.ops k).path.length=n1 at *
    generalize (opOf x.ops k).key=s1 at *
    generalize (opOf x.ops k).vt=s2 at *
    by_cases g1:50<n1
    ·have e1:decide ((50:Int)<(n1:Int))=true:=decide_eq_true (by omega)
     have HR:=Hi (HNO.out (HSF.out (by omega)))
     generalize x.ops.length=n at *
     go_wp2
     go_ret
     exact ⟨ret_b HR.out.symm,HBW.out⟩
    ·have e1:decide ((50:Int)<(n1:Int))=false:=decide_eq_false (by omega)
     by_cases g2:500<s1.size
     ·have e2:decide ((500:Int)<(s1.size:Int))=true:=decide_eq_true (by omega)
      have HR:=Hi (HNO.out (HSF.out (by omega)))
      generalize x.ops.length=n at *
      go_wp2
      go_ret
      exact ⟨ret_b HR.out.symm,HBW.out⟩
     ·have e2:decide ((500:Int)<(s1.size:Int))=false:=decide_eq_false (by omega)
      by_cases g3:500<s2.size
      ·have e3:decide ((500:Int)<(s2.size:Int))=true:=decide_eq_true (by omega)
       have HR:=Hi (HNO.out (HSF.out (by omega)))
       generalize x.ops.length=n at *
       go_wp2
       go_ret
       exact ⟨ret_b HR.out.symm,HBW.out⟩
      ·have e3:decide ((500:Int)<(s2.size:Int))=false:=decide_eq_false (by omega)
       have HR:=Hi (HST.out (HSM.out.2 ⟨by omega,by omega,by omega⟩))
       clear HNO HST HSM HSF
       go_wp2
       go_roundw
       case rel=>exact ⟨k+1,by omega,by go_num,HR.out,HX.out,HOS.out,HBW.out⟩
       case measure=>simp [intOf]; omega
   ·have d1:decide ((k:Int)<80)=false:=decide_eq_false (by omega)
    have HR:=Hi (light_big (x:=x) (by omega))
    have d2:decide ((x.ops.length:Int)≤70)=false:=decide_eq_false (by omega)
    generalize x.ops.length=n at *
    go_wp2
    go_ret
    exact ⟨ret_b HR.out.symm,HBW.out⟩
  ·obtain rfl:k=x.ops.length:=by omega
   have d0:decide ((x.ops.length:Int)<(x.ops.length:Int))=false:=decide_eq_false (by omega)
   by_cases h70:x.ops.length≤70
   ·have d2:decide ((x.ops.length:Int)≤70)=true:=decide_eq_true (by omega)
    have HR:=Hi (light_yes h70 HO.out)
    clear HO HOS
    generalize x.ops.length=n at *
    go_wp2
    go_ret
    exact ⟨ret_b HR.out.symm,HBW.out⟩
   ·have d2:decide ((x.ops.length:Int)≤70)=false:=decide_eq_false (by omega)
    have HR:=Hi (light_big (x:=x) (by omega))
    clear HO HOS
    generalize x.ops.length=n at *
    go_wp2
    go_ret
    exact ⟨ret_b HR.out.symm,HBW.out⟩
structure OwX (w0:World) (X:Nat) (x:Bat) (p:Option Addr) (c:Nat) (w:World):Prop where
 at_:BtAt w X x p c
 below:Below w0.heap.size w0 w
structure OwB (w0:World) (X R0 R1:Nat) (x:Bat) (p:Option Addr) (c:Nat) (y:Bat) (l:List En) (p':Option Addr) (c':Nat) (w:World):Prop where
 hX:w0.heap.size≤X
 hR0:X<R0
 hR1:R0<R1
 ox:OwX w0 X x p c w
 res:AgAt w R0 (btA Bat.zero none 0)
 row:Grow R1 y l p' c' w
section
variable {w0 w w':World} {X R0 R1:Nat} {x y z:Bat} {p p' p2:Option Addr} {c c' c2:Nat} {l l2:List En}
theorem OwB.kept (h:OwB w0 X R0 R1 x p c y l p' c' w) (hb:Below w.heap.size w w'):OwB w0 X R0 R1 x p c y l p' c' w' :=
 {h with ox:=⟨AgAt.kept h.ox.at_ hb,h.ox.below.trans (hb.mono h.ox.below.size)⟩,res:=h.res.kept hb,row:=h.row.kept hb }
theorem OwB.put (h:OwB w0 X R0 R1 x p c y l p' c' w) (hg:Grow R1 z l2 p2 c2 w') (hb:Below R1 w w'):OwB w0 X R0 R1 x p c z l2 p2 c2 w':=by
 have h1:=h.hX; have h2:=h.hR0; have h3:=h.hR1
 exact { h with ox:=⟨AgAt.below h.ox.at_ hb (by omega),h.ox.below.trans (hb.mono (by omega))⟩,res:=h.res.below hb (by omega),row:=hg }
theorem OwX.grown (h:OwB w0 X R0 R1 x p c y l p' c' w) (hg:w.grownBy w' (Value.slice p' y.ops.length c').ownBlock):OwX w0 X x p c w':=by
 have h1:=h.hX; have h2:=h.hR0; have h3:=h.hR1
 have hb:Below (R1+1) w w':=⟨hg.os,hg.tape,hg.output,hg.size,fun k hk=>hg.block k (by have:=AgAt.lt h.row.at_; omega) (fun e=>by have:=(World.ownsRow.lt h.row.own k e.symm).1; omega)⟩
 exact ⟨AgAt.below h.ox.at_ hb (by omega),h.ox.below.trans (hb.mono (by omega))⟩
end
theorem bown_any (x:Bat) (p:Option Addr) (c:Nat) (w:World) (h:Bops w x p c) (hl:x.ops.length≤5000) (hp:∀ y,y ∈ x.ops→y.path.length≤5000):Calls Tryz.prog 35 #[.agg (btA x p c)] w
  fun e w'=>∃ p' c',e=.returned (.agg (btA x p' c'))∧BopsN w.heap.size w' x p' c'∧Below w.heap.size w w':=by
 obtain ⟨i0,hi,hz0,hz1,hz2⟩:=info_parts oinfo_op
 obtain ⟨l0,h⟩:=h
 have hb1:=(Below.refl w.heap.size w).alloc (Nat.le_refl _) (.cells (btA x p c) 85)
 have hb2:=(Below.refl (w.alloc (.cells (btA x p c) 85)).heap.size _).alloc (Nat.le_refl _) (.cells #[.int .i64 0,.int .i64 0,.int .i64 0,.slice none 0 0] 81)
 have HX:=Hi (show BtAt ((w.alloc (.cells (btA x p c) 85)).alloc (.cells #[.int .i64 0,.int .i64 0,.int .i64 0,.slice none 0 0] 81)) w.heap.size x p c from (AgAt.new w _ _).kept hb2)
 have HOS:=Hi (fun W (hb:Below w.heap.size w W)=>h.kept hb)
 obtain ⟨x0,x1,x2,x3⟩:=BtAt.cells HX.out
 have T:=Hi (show OwB w w.heap.size (w.heap.size+1) (w.heap.size+2) x p c ⟨x.r,x.s,x.t,[]⟩ [] none 0 (((w.alloc (.cells (btA x p c) 85)).alloc (.cells #[.int .i64 0,.int .i64 0,.int .i64 0,.slice none 0 0] 81)).alloc (.cells #[.int .i64 x.r,.int .i64 x.s,.int .i64 x.t,.slice none 0 0] 81)) from by
  have k1:=AgAt.new (w.alloc (.cells (btA x p c) 85)) #[.int .i64 0,.int .i64 0,.int .i64 0,.slice none 0 0] 81
  have e1:(w.alloc (.cells (btA x p c) 85)).heap.size=w.heap.size+1:=by simp
  rw [e1] at k1
  generalize hw2:(w.alloc (.cells (btA x p c) 85)).alloc (.cells #[.int .i64 0,.int .i64 0,.int .i64 0,.slice none 0 0] 81)=W2 at *
  have e2:W2.heap.size=w.heap.size+2:=by rw [← hw2]; simp
  have k2:=AgAt.new W2 #[.int .i64 x.r,.int .i64 x.s,.int .i64 x.t,.slice none 0 0] 81
  rw [e2] at k2
  have hb3:=(Below.refl W2.heap.size W2).alloc (Nat.le_refl _) (.cells #[.int .i64 x.r,.int .i64 x.s,.int .i64 x.t,.slice none 0 0] 81)
  exact ⟨Nat.le_refl _,by omega,by omega,⟨AgAt.kept HX.out hb3,(hb1.trans (hb2.mono (by simp))).trans (hb3.mono (by omega))⟩,k1.kept hb3,Grow.start k2⟩)
 clear h hb1 hb2 HX
 go_enter Tryz.func35,Tryz.ntmps35
 go_wp2
 go_loopw [4] (fun i wr=>∃ (k:Nat) (l:List En) (p':Option Addr) (c':Nat),k≤x.ops.length∧i=.int .i64 (k:Int)∧OwB w w.heap.size (w.heap.size+2 - 1) (w.heap.size+2) x p c ⟨x.r,x.s,x.t,x.ops.take k⟩ l p' c' wr) (fun i _=>x.ops.length - (intOf i).toNat)
 case atStart=>exact ⟨0,[],none,0,Nat.zero_le _,rfl,T.out⟩
 case round =>
  clear T x0 x1 x2 x3
  obtain ⟨k,l,p',c',hk,rfl,ht⟩:=hrel
  rw [show w.heap.size+2 - 1=w.heap.size+1 from rfl] at *
  have T:=Hi ht
  clear ht
  obtain ⟨x0,x1,x2,x3⟩:=BtAt.cells T.out.ox.at_
  by_cases hlt:k<x.ops.length
  ·have HTK:=Hi (take_succ_op x.ops k hlt)
   have HTL:=Hi (show (x.ops.take k).length=k by rw [List.length_take]; omega)
   obtain ⟨b,o,rfl,hb⟩:=(HOS.out _ T.out.ox.below).rd.addr (by rw [enCells_length,(HOS.out _ T.out.ox.below).len]; omega)
   have HLL:=Hi (show k<l0.length by rw [(HOS.out _ T.out.ox.below).len]; exact hlt)
   have HXK:=Hi ((HOS.out _ T.out.ox.below).x k)
   have HOW:=Hi (fun W (hb:Below w.heap.size w W)=>ownN_any (opOf x.ops k) (enOf l0 k).q (enOf l0 k).c W ((HOS.out _ hb).paOf hlt) (hp _ (opOf_mem hlt)))
   have hd0:decide ((k:Int)<(x.ops.length:Int))=true:=decide_eq_true (by omega)
   replace T:=Hi (T.out.kept (Below.drew (Below.refl _ _)))
   generalize x.ops.take k=tk at *
   go_upto_region 5 with fail
   refine wp_region_held_drew (S:=OwX w w.heap.size x (some ⟨b,o,none⟩) c) (by kernel_rfl) T.out.ox (fun hS=>?_)
   clear x0 x1 x2 x3
   generalize wr.drew=w1 at *
   generalize opOf x.ops k=y at *
   refine tX 0 rfl hS ?_
   refine tX 2 rfl hS ?_
   refine tK 3 (v:=?_) rfl ?_ hS ?_
   rotate_left
   ·intro W hSW
    obtain ⟨x0,x1,x2,x3⟩:=BtAt.cells hSW.at_
    go_simp
    all_goals with_reducible rfl
   go_simp
   refine tX 4 rfl hS ?_
   refine tX 5 rfl hS ?_
   refine tK 6 (v:=.agg (opA (enOf l0 k).x (enOf l0 k).q (enOf l0 k).c)) rfl (fun W hSW=>exec_load_en otR rfl rfl l0 (HOS.out W hSW.below).rd HLL.out) hS ?_
   rw [HXK.out]
   go_simp
   refine wpAnyH_ready (rs:=[1,7]) (by kernel_rfl) (by simp) ?_
   refine AllReadyH.cons rfl (fun K hK=>?_) (AllReadyH.cons rfl (fun K hK=>?_) AllReadyH.nil)
   ·have y3:=(BtAt.cells T.out.row.at_).2.2.2
    dsimp only at y3
    go_simp
    refine hK.out _ _ T.out.ox (fun hS=>?_)
    clear hK K y3
    refine rD 7 rfl (fun K hK=>?_)
    go_simp
    go_wp2_with ((go_at_call 18; refine (HOW.out _ T.out.ox.below).mono ?_; rintro e w2 ⟨q2,c2,rfl,hp2,hb2,hn2⟩))
    have HN2:=Hi (show Far (w.heap.size+2) (Value.slice p' tk.length c') y q2 from fun _ a ha=>by
     have h1:=hn2 a ha
     have h2:=AgAt.lt T.out.row.at_
     refine ⟨by omega,fun hh=>?_⟩
     have:=(World.ownsRow.lt T.out.row.own a.block hh).2
     omega)
    replace T:=Hi (T.out.kept hb2)
    have HP2:=Hi hp2
    clear hb2 hn2 hp2
    refine hK.out _ _ T.out.ox (fun hS=>?_)
    clear hK K
    refine rD 8 rfl (fun K hK=>?_)
    have hb3:=(Below.refl w2.heap.size w2).alloc (Nat.le_refl _) (.cells (opA y q2 c2) 43)
    replace T:=Hi (T.out.kept hb3)
    have HP3:=Hi (HP2.out.kept hb3)
    have HRW:=Hi (rd_op_one w2 y q2 c2 43)
    clear hb3
    refine step_build_op (by kernel_rfl) _ rfl y q2 c2 rfl ?_
    refine hK.out _ _ T.out.ox (fun hS=>?_)
    clear hK K
    generalize w2.alloc (.cells (opA y q2 c2) 43)=w3 at *
    refine rD 9 rfl (fun K hK=>?_)
    refine step_append_kN (by kernel_rfl) _ _ 79 rfl (w.heap.size+2+1) 43 i0 _ 12 128 Tryz.underlying79 hi hz0 hz1 (by decide) hz2 (by decide) rfl _ tk.length (enCells l) rfl T.out.row.own _ 1 1 (opL y q2 c2) rfl rfl HRW.out (fun h=>by cases h) (opL_one y q2 c2) (by have:=HTL.out; omega) (by have:=AgAt.lt T.out.row.at_; omega) ?_
    intro p4 c4 w4 ho4 hg4 hw4
    have HG:=Hi (T.out.row.grown HP3.out HN2.out ho4 hg4 hw4)
    have HO4:=Hi (OwX.grown T.out hg4)
    clear ho4 hg4 hw4
    refine hK.out _ _ HO4.out (fun hS=>?_)
    clear hK K
    refine tX 10 rfl hS ?_
    go_simp
    refine rD 11 rfl (fun K hK=>?_)
    have y3:=(BtAt.cells HG.out.2.2).2.2.2
    have yf:=AgAt.free HG.out.2.2 3
    dsimp only at y3
    replace T:=Hi (T.out.put HG.out.1 HG.out.2.1)
    go_simp
    refine hK.out _ _ T.out.ox (fun hS=>?_)
    clear hK K y3 yf
    refine wpAnyH_done (by kernel_rfl) ?_ _
    go_simp
    generalize w4.setCell ⟨w.heap.size+2,3,none⟩ (.slice p4 (tk.length+1) c4)=w5 at *
    clear HG HP3 HRW HO4
    go_wp2
    go_roundw
    case rel=>exact ⟨k+1,_,_,_,by omega,by go_num,by rw [HTK.out]; exact T.out⟩
    case measure=>simp [intOf]; omega
   ·go_simp
    go_wp2_with ((go_at_call 18; refine (HOW.out _ T.out.ox.below).mono ?_; rintro e w2 ⟨q2,c2,rfl,hp2,hb2,hn2⟩))
    have HN2:=Hi (show Far (w.heap.size+2) (Value.slice p' tk.length c') y q2 from fun _ a ha=>by
     have h1:=hn2 a ha
     have h2:=AgAt.lt T.out.row.at_
     refine ⟨by omega,fun hh=>?_⟩
     have:=(World.ownsRow.lt T.out.row.own a.block hh).2
     omega)
    replace T:=Hi (T.out.kept hb2)
    have HP2:=Hi hp2
    clear hb2 hn2 hp2
    refine hK.out _ _ T.out.ox (fun hS=>?_)
    clear hK K
    refine wpAnyH_ready (rs:=[1,8]) (by kernel_rfl) (by simp) ?_
    refine AllReadyH.cons rfl (fun K hK=>?_) (AllReadyH.cons rfl (fun K hK=>?_) AllReadyH.nil)
    ·have y3:=(BtAt.cells T.out.row.at_).2.2.2
     dsimp only at y3
     go_simp
     refine hK.out _ _ T.out.ox (fun hS=>?_)
     clear hK K y3
     refine rD 8 rfl (fun K hK=>?_)
     have hb3:=(Below.refl w2.heap.size w2).alloc (Nat.le_refl _) (.cells (opA y q2 c2) 43)
     replace T:=Hi (T.out.kept hb3)
     have HP3:=Hi (HP2.out.kept hb3)
     have HRW:=Hi (rd_op_one w2 y q2 c2 43)
     clear hb3
     refine step_build_op (by kernel_rfl) _ rfl y q2 c2 rfl ?_
     refine hK.out _ _ T.out.ox (fun hS=>?_)
     clear hK K
     generalize w2.alloc (.cells (opA y q2 c2) 43)=w3 at *
     refine rD 9 rfl (fun K hK=>?_)
     refine step_append_kN (by kernel_rfl) _ _ 79 rfl (w.heap.size+2+1) 43 i0 _ 12 128 Tryz.underlying79 hi hz0 hz1 (by decide) hz2 (by decide) rfl _ tk.length (enCells l) rfl T.out.row.own _ 1 1 (opL y q2 c2) rfl rfl HRW.out (fun h=>by cases h) (opL_one y q2 c2) (by have:=HTL.out; omega) (by have:=AgAt.lt T.out.row.at_; omega) ?_
     intro p4 c4 w4 ho4 hg4 hw4
     have HG:=Hi (T.out.row.grown HP3.out HN2.out ho4 hg4 hw4)
     have HO4:=Hi (OwX.grown T.out hg4)
     clear ho4 hg4 hw4
     refine hK.out _ _ HO4.out (fun hS=>?_)
     clear hK K
     refine tX 10 rfl hS ?_
     go_simp
     refine rD 11 rfl (fun K hK=>?_)
     have y3:=(BtAt.cells HG.out.2.2).2.2.2
     have yf:=AgAt.free HG.out.2.2 3
     dsimp only at y3
     replace T:=Hi (T.out.put HG.out.1 HG.out.2.1)
     go_simp
     refine hK.out _ _ T.out.ox (fun hS=>?_)
     clear hK K y3 yf
     refine wpAnyH_done (by kernel_rfl) ?_ _
     go_simp
     generalize w4.setCell ⟨w.heap.size+2,3,none⟩ (.slice p4 (tk.length+1) c4)=w5 at *
     clear HG HP3 HRW HO4
     go_wp2
     go_roundw
     case rel=>exact ⟨k+1,_,_,_,by omega,by go_num,by rw [HTK.out]; exact T.out⟩
     case measure=>simp [intOf]; omega
    ·have hb3:=(Below.refl w2.heap.size w2).alloc (Nat.le_refl _) (.cells (opA y q2 c2) 43)
     replace T:=Hi (T.out.kept hb3)
     have HP3:=Hi (HP2.out.kept hb3)
     have HRW:=Hi (rd_op_one w2 y q2 c2 43)
     clear hb3
     refine step_build_op (by kernel_rfl) _ rfl y q2 c2 rfl ?_
     refine hK.out _ _ T.out.ox (fun hS=>?_)
     clear hK K
     generalize w2.alloc (.cells (opA y q2 c2) 43)=w3 at *
     refine rD 1 rfl (fun K hK=>?_)
     have y3:=(BtAt.cells T.out.row.at_).2.2.2
     dsimp only at y3
     go_simp
     refine hK.out _ _ T.out.ox (fun hS=>?_)
     clear hK K y3
     refine rD 9 rfl (fun K hK=>?_)
     refine step_append_kN (by kernel_rfl) _ _ 79 rfl (w.heap.size+2+1) 43 i0 _ 12 128 Tryz.underlying79 hi hz0 hz1 (by decide) hz2 (by decide) rfl _ tk.length (enCells l) rfl T.out.row.own _ 1 1 (opL y q2 c2) rfl rfl HRW.out (fun h=>by cases h) (opL_one y q2 c2) (by have:=HTL.out; omega) (by have:=AgAt.lt T.out.row.at_; omega) ?_
     intro p4 c4 w4 ho4 hg4 hw4
     have HG:=Hi (T.out.row.grown HP3.out HN2.out ho4 hg4 hw4)
     have HO4:=Hi (OwX.grown T.out hg4)
     clear ho4 hg4 hw4
     refine hK.out _ _ HO4.out (fun hS=>?_)
     clear hK K
     refine tX 10 rfl hS ?_
     go_simp
     refine rD 11 rfl (fun K hK=>?_)
     have y3:=(BtAt.cells HG.out.2.2).2.2.2
     have yf:=AgAt.free HG.out.2.2 3
     dsimp only at y3
     replace T:=Hi (T.out.put HG.out.1 HG.out.2.1)
     go_simp
     refine hK.out _ _ T.out.ox (fun hS=>?_)
     clear hK K y3 yf
     refine wpAnyH_done (by kernel_rfl) ?_ _
     go_simp
     generalize w4.setCell ⟨w.heap.size+2,3,none⟩ (.slice p4 (tk.length+1) c4)=w5 at *
     clear HG HP3 HRW HO4
     go_wp2
     go_roundw
     case rel=>exact ⟨k+1,_,_,_,by omega,by go_num,by rw [HTK.out]; exact T.out⟩
     case measure=>simp [intOf]; omega
  ·obtain rfl:k=x.ops.length:=by omega
   rw [List.take_length] at T
   have hx:=T.out.row.at_
   have hd0:decide ((x.ops.length:Int)<(x.ops.length:Int))=false:=decide_eq_false (by omega)
   go_wp2_with (first | (refine wpList_load_ag btP (by kernel_rfl) _ rfl _ rfl (A:=btA _ p' c') rfl (by assumption) ?_) | (refine wpList_store_ag btP rfl _ _ rfl _ rfl _ T.out.res rfl rfl rfl (btA_one _ _ _) ?_; intro wy hvy hko hsz hbn))
   refine bodyPost_ret (results_ag btP _ rfl rfl hvy rfl) rfl ?_
   exact ⟨p',c',rfl,(T.out.row.only (only_of hko hsz hbn) (by omega)).bopsN (by omega),hbn _ _ T.out.ox.below (by omega)⟩
open Go.RowKit
theorem stampT_no {x:Bat} {i:Int} (h:¬ (0≤i∧i<(x.ops.length:Int)∧rightT x=true)):stampT x i=(0,0):=by unfold stampT; rw [if_neg h]
theorem stampT_yes {x:Bat} {i:Int} (h:0≤i∧i<(x.ops.length:Int)∧rightT x=true):stampT x i=(x.t+i,x.r):=by unfold stampT; rw [if_pos h]
theorem bstamp_any (x:Bat) (p:Option Addr) (c:Nat) (i:Int) (w:World) (hs:Szs x.ops) (h:Bops w x p c) (hi:-9223372036854775808≤i∧i≤9223372036854775807) :
  Calls Tryz.prog 65 #[.agg (btA x p c),.int .i64 i] w fun e w'=>e=.returned (.agg #[.int .i64 (stampT x i).1,.int .i64 (stampT x i).2])∧Below w.heap.size w w':=by
 have hlen:=hs.len
 have h1:∀ (w:World) (o:Obj),Below w.heap.size w (w.alloc o):=fun w o=>(Below.refl _ _).alloc (Nat.le_refl _) _
 have HX:=Hi (show BtAt ((w.alloc (.cells (btA x p c) 81)).alloc (.cells #[.int .i64 0,.int .i64 0] 35)) w.heap.size x p c from (AgAt.new w (btA x p c) 81).kept (h1 _ _))
 have HB:=Hi (show Below w.heap.size w ((w.alloc (.cells (btA x p c) 81)).alloc (.cells #[.int .i64 0,.int .i64 0] 35)) from (h1 _ _).trans ((h1 _ _).mono (by simp)))
 have HRI:=Hi (fun W (hw:Below w.heap.size w W)=>bright_any x p c W hs (h.kept hw))
 have HNO:=Hi (fun hh=>stampT_no (x:=x) (i:=i) hh)
 have HYE:=Hi (fun hh=>stampT_yes (x:=x) (i:=i) hh)
 obtain ⟨x0,x1,x2,x3⟩:=BtAt.cells HX.out
 have hx:=HX.out
 clear h hs h1
 by_cases g1:i<0
 ·have d1:decide (i<0)=true:=decide_eq_true g1
  have HR:=Hi (HNO.out (by omega))
  go_enter Tryz.func65,Tryz.ntmps65
  go_wp2
  refine bodyPost_ret (v:=.agg #[.int .i64 0,.int .i64 0]) (by simp [results,Tryz.results65,go_sem]) rfl ?_
  rw [HR.out]
  exact ⟨rfl,HB.out⟩
 have d1:decide (i<0)=false:=decide_eq_false g1
 by_cases g2:(x.ops.length:Int)≤i
 ·have d2:decide ((x.ops.length:Int)≤i)=true:=decide_eq_true g2
  have HR:=Hi (HNO.out (by omega))
  generalize x.ops.length=n at *
  go_enter Tryz.func65,Tryz.ntmps65
  go_wp2
  refine bodyPost_ret (v:=.agg #[.int .i64 0,.int .i64 0]) (by simp [results,Tryz.results65,go_sem]) rfl ?_
  rw [HR.out]
  exact ⟨rfl,HB.out⟩
 have d2:decide ((x.ops.length:Int)≤i)=false:=decide_eq_false g2
 cases hr:rightT x with
 | false =>
  have HR:=Hi (HNO.out (by rw [hr]; simp))
  rw [hr] at HRI
  generalize x.ops.length=n at *
  go_enter Tryz.func65,Tryz.ntmps65
  go_wp2_with (refine wpList_load_ag btP (by kernel_rfl) _ rfl _ rfl (A:=btA x p c) rfl (by assumption) ?_)
  refine (HRI.out _ HB.out).mono ?_
  rintro e w1 ⟨rfl,hb1⟩
  have HB2:=Hi (HB.out.trans (hb1.mono HB.out.size))
  have HZ:=Hi (show AgAt w1 (w.heap.size+1) #[.int .i64 0,.int .i64 0] from AgAt.kept (by have:=AgAt.new (w.alloc (.cells (btA x p c) 81)) #[.int .i64 0,.int .i64 0] 35; simpa using this) hb1)
  clear hb1
  go_wp2_with (refine wpList_store_ag stT rfl _ _ rfl _ rfl _ HZ.out rfl rfl rfl (stA_one _ _) ?_; intro wz hvz hko hsz hbn)
  refine bodyPost_ret (results_ag stT _ rfl rfl hvz rfl) rfl ?_
  rw [HR.out]
  exact ⟨rfl,hbn _ _ HB2.out (Nat.le_succ _)⟩
 | true =>
  have HR:=Hi (HYE.out ⟨by omega,by omega,hr⟩)
  have HF:=Hi (rightT_iff.1 hr)
  rw [hr] at HRI
  generalize x.ops.length=n at *
  go_enter Tryz.func65,Tryz.ntmps65
  go_wp2_with (refine wpList_load_ag btP (by kernel_rfl) _ rfl _ rfl (A:=btA x p c) rfl (by assumption) ?_)
  refine (HRI.out _ HB.out).mono ?_
  rintro e w1 ⟨rfl,hb1⟩
  have HB2:=Hi (HB.out.trans (hb1.mono HB.out.size))
  have hwr:IntKind.i64.wrap (x.t+i)=x.t+i:=by rw [IntKind.wrap_i64]; have:=HF.out.2.2.2.1; have:=HF.out.2.2.1; omega
  obtain ⟨x0,x1,x2,x3⟩:=BtAt.cells (AgAt.kept HX.out hb1)
  have HZ:=Hi (show AgAt w1 (w.heap.size+1) #[.int .i64 0,.int .i64 0] from AgAt.kept (by have:=AgAt.new (w.alloc (.cells (btA x p c) 81)) #[.int .i64 0,.int .i64 0] 35; simpa using this) hb1)
  clear hb1
  go_wp2_with (refine wpList_store_ag stT rfl _ _ rfl _ rfl _ HZ.out rfl rfl rfl (stA_one _ _) ?_; intro wz hvz hko hsz hbn)
  refine bodyPost_ret (results_ag stT _ rfl rfl hvz rfl) rfl ?_
  rw [HR.out]
  exact ⟨rfl,hbn _ _ HB2.out (Nat.le_succ _)⟩
theorem bend_any (x:Bat) (p:Option Addr) (c:Nat) (w:World) (hs:Szs x.ops) (h:Bops w x p c) :
  Calls Tryz.prog 276 #[.agg (btA x p c)] w fun e w'=>e=.returned (.agg #[.int .i64 (endT x).1,.int .i64 (endT x).2])∧Below w.heap.size w w':=by
 have hlen:=hs.len
 have h1:∀ (w:World) (o:Obj),Below w.heap.size w (w.alloc o):=fun w o=>(Below.refl _ _).alloc (Nat.le_refl _) _
 have HX:=Hi (show BtAt ((w.alloc (.cells (btA x p c) 81)).alloc (.cells #[.int .i64 0,.int .i64 0] 35)) w.heap.size x p c from (AgAt.new w (btA x p c) 81).kept (h1 _ _))
 have HB:=Hi (show Below w.heap.size w ((w.alloc (.cells (btA x p c) 81)).alloc (.cells #[.int .i64 0,.int .i64 0] 35)) from (h1 _ _).trans ((h1 _ _).mono (by simp)))
 have HZ0:=Hi (show AgAt ((w.alloc (.cells (btA x p c) 81)).alloc (.cells #[.int .i64 0,.int .i64 0] 35)) (w.heap.size+1) #[.int .i64 0,.int .i64 0] from by
  have:=AgAt.new (w.alloc (.cells (btA x p c) 81)) #[.int .i64 0,.int .i64 0] 35
  simpa using this)
 have HST:=Hi (fun W (hw:Below w.heap.size w W)=>bstamp_any x p c ((x.ops.length:Int) - 1) W hs (h.kept hw) (by omega))
 have hwr:IntKind.i64.wrap ((x.ops.length:Int) - 1)=(x.ops.length:Int) - 1:=by rw [IntKind.wrap_i64]; omega
 have HE:=Hi (show endT x=stampT x ((x.ops.length:Int) - 1) from rfl)
 obtain ⟨x0,x1,x2,x3⟩:=BtAt.cells HX.out
 have hx:=HX.out
 clear h hs h1
 go_enter Tryz.func276,Tryz.ntmps276
 go_wp2_with (refine wpList_load_ag btP (by kernel_rfl) _ rfl _ rfl (A:=btA x p c) rfl (by assumption) ?_)
 refine (HST.out _ HB.out).mono ?_
 rintro e w1 ⟨rfl,hb1⟩
 have HB2:=Hi (HB.out.trans (hb1.mono HB.out.size))
 have HZ:=Hi (HZ0.out.kept hb1)
 clear hb1
 go_wp2_with (refine wpList_store_ag stT rfl _ _ rfl _ rfl _ HZ.out rfl rfl rfl (stA_one _ _) ?_; intro wz hvz hko hsz hbn)
 refine bodyPost_ret (results_ag stT _ rfl rfl hvz rfl) rfl ?_
 rw [HE.out]
 exact ⟨rfl,hbn _ _ HB2.out (Nat.le_succ _)⟩
open Go.RowKit
open Go.Maps (Keyed)
structure Be where
 x:Bat
 p:Option Addr
 c:Nat
def beL (e:Be):List Value:=[.int .i64 e.x.r,.int .i64 e.x.s,.int .i64 e.x.t,.slice e.p e.x.ops.length e.c]
def beCells (l:List Be):List Value:=l.flatMap beL
def beOf (l:List Be) (i:Nat):Be:=l.getD i ⟨Bat.zero,none,0⟩
theorem beL_length (e:Be):(beL e).length=4:=rfl
theorem beL_arr (e:Be):(beL e).toArray=btA e.x e.p e.c:=rfl
theorem beCells_length (l:List Be):(beCells l).length=l.length * 4:=by
 induction l with
 | nil=>rfl
 | cons a l ih=>simp only [beCells,List.flatMap_cons,List.length_append,List.length_cons,beL_length] at ih ⊢; omega
theorem beCells_append (l m:List Be):beCells (l ++ m)=beCells l ++ beCells m:=by simp [beCells]
theorem beCells_sing (e:Be):beCells [e]=beL e:=by simp [beCells]
theorem beL_one (e:Be):∀ u ∈ beL e,u.oneCell'=true:=by
 intro u hu
 simp only [beL,List.mem_cons,List.not_mem_nil,or_false] at hu
 rcases hu with rfl | rfl | rfl | rfl <;> rfl
theorem beCells_get (l:List Be) (i j:Nat) (h:i<l.length) (hj:j<4):(beCells l)[i * 4+j]?=(beL (beOf l i))[j]?:=by
 induction l generalizing i with
 | nil=>simp at h
 | cons a l ih =>
  have e0:beCells (a :: l)=beL a ++ beCells l:=by simp [beCells]
  rw [e0]
  cases i with
  | zero =>
   rw [Nat.zero_mul,Nat.zero_add,List.getElem?_append_left (by rw [beL_length]; exact hj)]
   rfl
  | succ i =>
   rw [List.getElem?_append_right (by rw [beL_length]; omega),beL_length,show (i+1) * 4+j - 4=i * 4+j from by omega,ih i (by simpa using h)]
   rfl
theorem beCells_drop (l:List Be) (n:Nat):(beCells l).drop (n * 4)=beCells (l.drop n):=by
 induction l generalizing n with
 | nil=>simp [beCells]
 | cons a l ih =>
  cases n with
  | zero=>simp [beCells]
  | succ i =>
   have e0:beCells (a :: l)=beL a ++ beCells l:=by simp [beCells]
   rw [e0,show (i+1) * 4=4+i * 4 from by omega,← List.drop_drop]
   have e1:(beL a ++ beCells l).drop 4=beCells l:=by rw [← beL_length a,List.drop_left]
   rw [e1,ih]
   rfl
theorem beOf_mem {l:List Be} {i:Nat} (h:i<l.length):beOf l i ∈ l:=by
 have:beOf l i=l[i]:=by simp [beOf,h]
 rw [this]; exact List.getElem_mem h
theorem Rd.be {w:World} {b o:Nat} {l:List Be} (h:Rd w (some ⟨b,o,none⟩) (beCells l)) (i:Nat) (hi:i<l.length):w.rangeAt b (o+i * 4) (beL (beOf l i)):=by
 intro j v hv
 have hj:j<4:=by have:=(List.getElem?_eq_some_iff.1 hv).1; rw [beL_length] at this; exact this
 rw [Nat.add_assoc]
 exact h.cell (by rw [beCells_get l i j hi hj]; exact hv)
theorem wpList_load_be {w:World} {t:TypeId} (V:AgT t 4) {ops:Array Oper} {rest:List Oper} {o:Oper} {a:Act} {Q:Exit→Act→World→Prop} (hgd:o.guard=none) (y:Operand) (ho:o.op=.load t y)
  (b s i:Nat) (hx:a.eval y=.pointer (some ⟨b,s+i * 4,none⟩)) (l:List Be) (hrd:Rd w (some ⟨b,s,none⟩) (beCells l)) (hi:i<l.length)
  (h:wpList Tryz.prog ops Q rest (a.put o.dst (.agg (btA (beOf l i).x (beOf l i).p (beOf l i).c))) w):wpList Tryz.prog ops Q (o :: rest) a w:=by
 obtain ⟨d,hu⟩:=V.und
 exact wpList_load_mid hgd t y ho b (s+i * 4) hx (beL (beOf l i)) _ (hrd.be i hi) hu rfl V.size h
def BopsF (F:Nat→Prop) (w:World) (x:Bat) (p:Option Addr) (c:Nat):Prop :=
 ∃ l,Os w p c l x.ops∧(0<x.ops.length→∀ a,p=some a→F a.block)∧∀ e,e ∈ l→0<e.x.path.length→∀ a,e.q=some a→F a.block
section
variable {F G:Nat→Prop} {w w':World} {x:Bat} {p:Option Addr} {c:Nat}
theorem BopsF.bops (h:BopsF F w x p c):Bops w x p c:=⟨_,h.choose_spec.1⟩
theorem BopsF.mono (h:BopsF F w x p c) (hm:∀ k,k<w.heap.size→F k→G k):BopsF G w x p c:=by
 obtain ⟨l,h1,h2,h3⟩:=h
 refine ⟨l,h1,fun h0 a ha=>?_,fun e he h0 a ha=>?_⟩
 ·obtain ⟨b,o,e,hb⟩:=h1.rd.addr (by rw [enCells_length,h1.len]; omega)
  rw [ha] at e; cases e
  exact hm _ hb (h2 h0 _ ha)
 ·obtain ⟨b,o,e',hb⟩:=(h1.pa e he).rd.addr (by rw [stCells_length]; omega)
  rw [ha] at e'; cases e'
  exact hm _ hb (h3 e he h0 _ ha)
theorem BopsF.turns (h:BopsF F w x p c) (ht:Turns G w w') (hd:∀ k,F k→¬ G k):BopsF F w' x p c:=by
 obtain ⟨l,h1,h2,h3⟩:=h
 have rdk:∀ {q:Option Addr} {us:List Value},Rd w q us→(0<us.length→∀ a,q=some a→F a.block)→Rd w' q us:=by
  intro q us hr hf h0
  obtain ⟨b,o,rfl,hc⟩:=hr h0
  have hF:F b:=hf h0 ⟨b,o,none⟩ rfl
  exact ⟨b,o,rfl,fun i u hu=>ht.cell (hc i u hu) (hd _ hF)⟩
 refine ⟨l,⟨h1.map,rdk h1.rd fun h0=>h2 (by rw [enCells_length,h1.len] at h0; omega),fun e he=>⟨rdk (h1.pa e he).rd fun h0=>h3 e he (by rw [stCells_length] at h0; omega),(h1.pa e he).nil,(h1.pa e he).cap⟩,h1.nil,h1.cap⟩,h2,h3⟩
theorem BopsF.below (h:BopsF F w x p c) (hb:Below w.heap.size w w'):BopsF F w' x p c:=by
 obtain ⟨l,h1,h2,h3⟩:=h
 exact ⟨l,h1.kept hb,h2,h3⟩
theorem BopsF.ofN {B:Nat} (h:BopsN B w x p c):BopsF (fun k=>B≤k) w x p c:=h
end
theorem laidB9:laidOutB Tryz.prog=true:=by kernel_rfl
theorem lawPl:Keyed Tryz.prog 281:=Keyed.of_law (deep_law_laid laidB9 (m:=2) (by omega) (of_decide_eq_true (by kernel_rfl)) (by kernel_rfl) (by kernel_rfl))
abbrev plA (r s:Int):Value:=.agg #[.int .i64 r,.int .i64 s]
theorem key_pl (r s:Int) (h0:(Lit.int .i64 r).wf=true) (h1:(Lit.int .i64 s).wf=true):∃ l,keyOf Tryz.prog 281 (plA r s)=some l:=by
 have hkt:Tryz.prog.keyType 281=true:=by kernel_rfl
 have hsz:2≤Tryz.prog.types.size:=of_decide_eq_true (by kernel_rfl)
 obtain ⟨m,hm⟩:∃ m,Tryz.prog.types.size=m+1:=⟨Tryz.prog.types.size - 1,by omega⟩
 have c2:Tryz.prog.cellsOf 281=2:=by kernel_rfl
 have c3:Tryz.prog.cellsOf 3=1:=by kernel_rfl
 have hu:=Tryz.underlying281
 have hi:=Tryz.underlying3
 have k1:∀ (n:Nat) (a:Int),(Lit.int .i64 a).wf=true→Tryz.prog.keyLits (n+1) 3 [.int .i64 a]=some [.int .i64 a]:=fun n a ha=>by
  simp [Program.keyLits,hi,ha]
 have k3:∃ ls,Tryz.prog.keyLits (Tryz.prog.types.size+1) 281 (plA r s).cells.toList=some ls:=by
  rw [hm]
  unfold Program.keyLits
  simp only [hu]
  rw [if_pos ⟨by rw [c2]; rfl,by kernel_rfl⟩]
  simp [Value.cells,c3,k1 _ _ h0,k1 _ _ h1]
 obtain ⟨ls,hls⟩:=k3
 refine ⟨.string (keyBytes ls),?_⟩
 unfold keyOf
 simp only [hu]
 rw [if_pos (by simp [hkt,Value.formed,hu,c2]),hls]
 rfl
theorem plA_inj {r s r' s':Int} (h:plA r s=plA r' s'):r=r'∧s=s':=by
 simp only [Value.agg.injEq] at h
 have h4:=congrArg Array.toList h
 simpa using h4
def atPl (r s:Int) (x:Bat):Bool:=x.r == r && x.s == s
theorem atPl_iff {r s:Int} {x:Bat}:atPl r s x=true↔x.r=r∧x.s=s:=by simp [atPl]
def plWf (x:Bat):Prop:=(Lit.int .i64 x.r).wf=true∧(Lit.int .i64 x.s).wf=true
theorem plWf_of {x:Bat} (h:rightT x=true):plWf x:=by
 obtain ⟨h1,h2,-⟩:=rightT_iff.1 h
 have e1:IntKind.i64.min = -9223372036854775808:=by decide
 have e2:IntKind.i64.max=9223372036854775807:=by decide
 constructor <;> simp [Lit.wf,e1,e2] <;> omega
structure WMap (w:World) (M:Nat) (l:List Be):Prop where
 ex:∃ es clock,w.heap[M]?=some (.map es clock)∧es.toList.map (fun e=>(e.key,e.val))=l.map fun b=>(plA b.x.r b.x.s,Value.agg (btA b.x b.p b.c))
 wf:∀ e ∈ l,plWf e.x
 apart:l.Pairwise fun a b=>¬ (a.x.r=b.x.r∧a.x.s=b.x.s)
 fresh:∃ es clock,w.heap[M]?=some (.map es clock)∧(∀ e ∈ es.toList,e.born<clock)∧(es.toList.map (·.born)).Nodup
section
variable {w w':World} {M:Nat} {l:List Be}
theorem WMap.lt (h:WMap w M l):M<w.heap.size:=by
 obtain ⟨es,clock,hb,-⟩:=h.ex
 exact (Array.getElem?_eq_some_iff.1 hb).1
theorem WMap.block (h:WMap w M l) (e:w'.heap[M]?=w.heap[M]?):WMap w' M l:=by
 obtain ⟨es,clock,hb,h1⟩:=h.ex
 obtain ⟨es2,clock2,hb2,h2⟩:=h.fresh
 exact ⟨⟨es,clock,e.trans hb,h1⟩,h.wf,h.apart,⟨es2,clock2,e.trans hb2,h2⟩⟩
theorem WMap.turns {G:Nat→Prop} (h:WMap w M l) (ht:Turns G w w') (hd:¬ G M):WMap w' M l:=h.block (ht.block M h.lt hd)
theorem WMap.made (w:World):WMap (w.alloc (.map #[] 0)) w.heap.size []:=⟨⟨#[],0,heap_alloc_new w _,rfl⟩,fun _ h=>(by cases h),List.Pairwise.nil,⟨#[],0,heap_alloc_new w _,fun _ h=>(by cases h),List.Pairwise.nil⟩⟩
theorem WMap.keys (h:WMap w M l) {es:Array MapEntry} (he:es.toList.map (fun e=>(e.key,e.val))=l.map fun b=>(plA b.x.r b.x.s,Value.agg (btA b.x b.p b.c))):∀ e ∈ es.toList,∃ k,keyOf Tryz.prog 281 e.key=some k:=by
 intro e hm
 have:(e.key,e.val) ∈ l.map fun b=>(plA b.x.r b.x.s,Value.agg (btA b.x b.p b.c)):=by rw [← he]; exact List.mem_map.2 ⟨e,hm,rfl⟩
 obtain ⟨b,hb,e'⟩:=List.mem_map.1 this
 simp only [Prod.mk.injEq] at e'
 rw [← e'.1]
 exact key_pl _ _ (h.wf b hb).1 (h.wf b hb).2
end
open Go.RowKit
theorem agO:AgT 43 12:=⟨otP.und,otP.size⟩
theorem setL_en (l:List En) (i:Nat) (e:En) (h:i<l.length):setL (enCells l) (i * 12) (opL e.x e.q e.c)=enCells (l.set i e):=by
 apply List.ext_getElem?
 intro j
 have hb:i * 12+12≤(enCells l).length:=by rw [enCells_length]; omega
 rw [setL_get _ _ _ (by rw [opL_length]; exact hb),opL_length]
 by_cases hj:j<(enCells l).length
 ·rw [enCells_length] at hj
  obtain ⟨a,b,rfl,hb'⟩:∃ a b,j=a * 12+b∧b<12:=⟨j / 12,j % 12,by omega,by omega⟩
  have ha:a<l.length:=by omega
  rw [enCells_get (l.set i e) a b (by simpa using ha) hb']
  have he:enOf (l.set i e) a=if a=i then e else enOf l a:=by
   unfold enOf
   by_cases q:a=i
   ·subst q; simp [List.getD,ha]
   ·simp [List.getD,q,Ne.symm q]
  by_cases q:a=i
  ·subst q
   rw [if_pos (by omega),he,if_pos rfl,show a * 12+b - a * 12=b from by omega]
  ·rw [if_neg (by omega),enCells_get l a b ha hb',he,if_neg q]
 ·rw [if_neg (by omega),List.getElem?_eq_none (by omega),List.getElem?_eq_none (by rw [enCells_length] at hj ⊢; simpa using hj)]
theorem opcopy_any (x:Opp) (q:Option Addr) (c:Nat) (w:World) (ha:Pa w x q c) (hl:x.path.length≤5000):Calls Tryz.prog 235 #[.agg (opA x q c)] w (OwnedN w x):=by
 obtain ⟨i0,hi,hz0,hz1,hz2⟩:=info_parts oinfo_st
 have h1:∀ (w:World) (o:Obj),Below w.heap.size w (w.alloc o):=fun w o=>(Below.refl _ _).alloc (Nat.le_refl _) _
 have hb0:=(h1 w (.cells (opA x q c) 43)).trans ((h1 (w.alloc (.cells (opA x q c) 43)) (.cells #[.int .i64 0,.int .i64 0,.int .i64 0,.int .i64 0,.int .i64 0,.string ⟨#[]⟩,.slice none 0 0,.int .i64 0,.int .i64 0,.int .i64 0,.string ⟨#[]⟩,.bool false] 43)).mono (by simp))
 have HB:=Hi hb0
 have HX:=Hi ((OpAt.new w x q c 43).kept (h1 _ (.cells #[.int .i64 0,.int .i64 0,.int .i64 0,.int .i64 0,.int .i64 0,.string ⟨#[]⟩,.slice none 0 0,.int .i64 0,.int .i64 0,.int .i64 0,.string ⟨#[]⟩,.bool false] 43)))
 have HZ:=Hi (show AgAt ((w.alloc (.cells (opA x q c) 43)).alloc (.cells #[.int .i64 0,.int .i64 0,.int .i64 0,.int .i64 0,.int .i64 0,.string ⟨#[]⟩,.slice none 0 0,.int .i64 0,.int .i64 0,.int .i64 0,.string ⟨#[]⟩,.bool false] 43)) (w.heap.size+1) #[.int .i64 0,.int .i64 0,.int .i64 0,.int .i64 0,.int .i64 0,.string ⟨#[]⟩,.slice none 0 0,.int .i64 0,.int .i64 0,.int .i64 0,.string ⟨#[]⟩,.bool false] from by
  have:=AgAt.new (w.alloc (.cells (opA x q c) 43)) #[.int .i64 0,.int .i64 0,.int .i64 0,.int .i64 0,.int .i64 0,.string ⟨#[]⟩,.slice none 0 0,.int .i64 0,.int .i64 0,.int .i64 0,.string ⟨#[]⟩,.bool false] 43
  simpa using this)
 have HP:=Hi (ha.kept hb0)
 have HS:=Hi (show ((w.alloc (.cells (opA x q c) 43)).alloc (.cells #[.int .i64 0,.int .i64 0,.int .i64 0,.int .i64 0,.int .i64 0,.string ⟨#[]⟩,.slice none 0 0,.int .i64 0,.int .i64 0,.int .i64 0,.string ⟨#[]⟩,.bool false] 43)).heap.size=w.heap.size+2 from by simp)
 have HN:=Hi (fun W=>World.ownsRow_nil W (w.heap.size+2) 35 2)
 obtain ⟨x0,x1,x2,x3,x4,x5,x6,x7,x8,x9,x10,x11⟩:=HX.out.cells
 clear ha h1 hb0
 go_enter Tryz.func235,Tryz.ntmps235
 go_wp2_with (at_builtin; refine wpList_append_k rfl _ _ 36 rfl (w.heap.size+2) 35 i0 _ 2 16 Tryz.underlying36 hi hz0 hz1 (by decide) hz2 (by decide) rfl _ 0 [] rfl (HN.out _) _ x.path.length c (stCells x.path) rfl (stCells_length x.path) HP.out.rd HP.out.nil stCells_one (by omega) (by rw [HS.out]; exact Nat.le_refl _) ?_)
 intro p' c' w1 ho hg _
 have hb1:Below (w.heap.size+2) ((w.alloc (.cells (opA x q c) 43)).alloc (.cells #[.int .i64 0,.int .i64 0,.int .i64 0,.int .i64 0,.int .i64 0,.string ⟨#[]⟩,.slice none 0 0,.int .i64 0,.int .i64 0,.int .i64 0,.string ⟨#[]⟩,.bool false] 43)) w1:=by
  have:=(Below.refl (w.heap.size+2) ((w.alloc (.cells (opA x q c) 43)).alloc (.cells #[.int .i64 0,.int .i64 0,.int .i64 0,.int .i64 0,.int .i64 0,.string ⟨#[]⟩,.slice none 0 0,.int .i64 0,.int .i64 0,.int .i64 0,.string ⟨#[]⟩,.bool false] 43))).grown hg (by rw [HS.out]; exact Nat.le_refl _) (fun k hk=>by cases hk)
  exact this
 have HX1:=Hi (HX.out.below hb1 (by omega))
 have HZ1:=Hi (HZ.out.below hb1 (by omega))
 have HB1:=Hi (HB.out.trans (hb1.mono (by omega)))
 have HO:=Hi ho
 have HX2:=Hi (show OpAt (w1.setCell ⟨w.heap.size,6,none⟩ (.slice p' x.path.length c')) w.heap.size x p' c' from HX1.out.setPath x.path p' c')
 have HZ2:=Hi (show AgAt (w1.setCell ⟨w.heap.size,6,none⟩ (.slice p' x.path.length c')) (w.heap.size+1) #[.int .i64 0,.int .i64 0,.int .i64 0,.int .i64 0,.int .i64 0,.string ⟨#[]⟩,.slice none 0 0,.int .i64 0,.int .i64 0,.int .i64 0,.string ⟨#[]⟩,.bool false] from HZ1.out.block (heap_setCell_other _ _ _ _ (by simp)))
 have HB2:=Hi (show Below w.heap.size w (w1.setCell ⟨w.heap.size,6,none⟩ (.slice p' x.path.length c')) from HB1.out.setCell (by simp) _)
 have HO2:=Hi (show (w1.setCell ⟨w.heap.size,6,none⟩ (.slice p' x.path.length c')).ownsRow (w.heap.size+2) 35 2 (.slice p' x.path.length c') x.path.length (stCells x.path) from by
  refine (set_turns _ _ _ _).own HO.out fun g hg e=>?_
  have:=(World.ownsRow.lt HO.out g hg).1
  omega)
 have y6:=HX1.out.cells.2.2.2.2.2.2.1
 have yf:=HX1.out.free 6
 clear ho hg hb1 HP HS HN HX HZ HB x0 x1 x2 x3 x4 x5 x6 x7 x8 x9 x10 x11
 go_wp2_with (first | (refine wpList_load_op otP rfl _ rfl _ rfl x p' c' HX2.out ?_) | (refine wpList_store_ag agO rfl _ _ rfl _ rfl _ HZ2.out rfl rfl rfl (opA_one x p' c') ?_; intro w3 hv3 hko hsz hbn))
 refine bodyPost_ret (results_ag agO _ rfl rfl hv3 rfl) rfl ?_
 obtain ⟨p2,c2,e2,hr2,hl2,-,hn2,hb2⟩:=own_rd HO2.out
 obtain ⟨rfl,rfl⟩:p'=p2∧c'=c2:=by cases e2; exact ⟨rfl,rfl⟩
 refine ⟨p',c',rfl,⟨?_,hn2,hl2⟩,hbn _ _ HB2.out (by omega),fun a ha=>by have:=(hb2 a ha).1; omega⟩
 refine (stored_turns hko hsz hbn).rd hr2 fun a ha e=>?_
 have:=(hb2 a ha).1
 omega
def OCloned (l:List En) (w:World) (e:Ending) (w':World):Prop :=
 ∃ p' c',e=.returned (.slice p' l.length c')∧w'.ownsRow w.heap.size 43 12 (.slice p' l.length c') l.length (enCells l)∧Below w.heap.size w w'
theorem oclone_any (p:Option Addr) (cap:Nat) (l:List En) (w:World) (h:Rd w p (enCells l)) (hpn:p=none→cap=0) (hl:l.length≤5000) :
  Calls Tryz.prog 234 #[.slice p l.length cap] w (OCloned l w):=by
 obtain ⟨i0,hi,hz0,hz1,hz2⟩:=info_parts oinfo_op
 have qT:∀ (w:World) (a:Option Addr) (n c n' c':Nat),(binOp .eql 79 (.slice a n c) (.slice none n' c')).run Tryz.prog w=.ok (.bool a.isNone) w:=fun w a n c n' c'=>Lib.run_eql_slice_nil w _ _ a n c n' c' Tryz.underlying79
 cases p with
 | none =>
  have h0:l=[]:=by
   cases l with
   | nil=>rfl
   | cons a l =>
    obtain ⟨b,o,e,-⟩:=h (by rw [enCells_length]; simp)
    cases e
  subst h0
  have HE:=Hi (show OCloned [] w (.returned (.slice none 0 0)) w from ⟨none,0,rfl,World.ownsRow_nil _ _ _ _,Below.refl _ _⟩)
  clear h hpn
  go_enter Tryz.func234,Tryz.ntmps234
  go_wp2
  go_ret
  exact HE.out
 | some a =>
  have hb:Below w.heap.size w (w.alloc (.cells #[] 43)):=(Below.refl _ _).alloc (Nat.le_refl _) _
  have HR:=Hi (h.below hb)
  have HB:=Hi hb
  have HO:=Hi (World.ownsRow_lit (base:=w.heap.size) (e:=43) (size:=12) w #[] 0 (Nat.le_refl _) (by simp [maxLen]) (by simp))
  clear h hb hpn
  go_enter Tryz.func234,Tryz.ntmps234
  go_wp2_with (at_builtin; refine wpList_append_k rfl _ _ 79 rfl w.heap.size 43 i0 _ 12 128 Tryz.underlying79 hi hz0 hz1 (by decide) hz2 (by decide) rfl _ 0 [] rfl HO.out _ l.length cap (enCells l) rfl (enCells_length l) HR.out (fun e=>by cases e) enCells_one (by omega) (by simp) ?_)
  intro p' c' w1 ho1 hg1 _
  have hbw:=HB.out.grown hg1 (by simp) (fun k hk=>by cases hk; exact Nat.le_refl _)
  have HE:=Hi (show OCloned l w (.returned (.slice p' l.length c')) w1 from ⟨p',c',rfl,by simpa using ho1,hbw⟩)
  clear ho1 hg1 hbw
  go_wp2
  go_ret
  exact HE.out
end Go.Proofs.YthfhefdfehlbkaaGreat

/-
  COPIES of a batch, and of a row of batches.
  No conditions but sizes.
  A ROW OF BATCHES THAT GROWS, a call's own ('BRow'): append of a batch to it; copies of a row.
  No conditions but sizes.
  THE MAP OF THOSE THAT WAIT: look-ups, a store at a new place, what is taken out, how many.
  No conditions but sizes.
  VECTORS IN MEMORY: sixteen numbers by value, in a block of their own; held against each other.
  No conditions.
  VECTORS, PLAINLY: right, join, meet, covers, used, total; and what a program's type tables say of them.
  No conditions.
  LOGS, PLAINLY: of each replica its batches, those that wait; what Add does; how many there are.
  No conditions.
  A LOG's ENTRIES, PLAINLY.
  No conditions.
  Right, of both sides; used; Total of both sides.
  No conditions.
  Join and Meet, of both sides.
  No conditions.
  Covers, Compare and Total, of both sides.
  No conditions.
  Compare and Total, of both sides.
  No conditions.
-/
import Derived.Test.YthfhefdfehlbkaaGreatSh
import Derived.Test.YthfhefdfehlbkaaGreatK06
import Derived.Test.YthfhefdfehlbkaaGreatK01
import Derived.Deep.MidRow
import Derived.Deep.RegionHeld
import Derived.ChangeKeysEq
import Derived.Outline
import Derived.Deep.QuietTactic
import Derived.BigQuiet
set_option maxRecDepth 100000
set_option maxHeartbeats 8000000
namespace Go.Proofs.YthfhefdfehlbkaaGreat
open Go.RowKit
theorem wpList_load_en0 {w:World} {t:TypeId} (V:OT t) {ops:Array Oper} {rest:List Oper} {o:Oper} {a:Act} {Q:Exit→Act→World→Prop} (hgd:o.guard=none) (y:Operand) (ho:o.op=.load t y)
  (b i:Nat) (hx:a.eval y=.pointer (some ⟨b,i * 12,none⟩)) (l:List En) (hrd:Rd w (some ⟨b,0,none⟩) (enCells l)) (hi:i<l.length)
  (h:wpList Tryz.prog ops Q rest (a.put o.dst (.agg (opA (enOf l i).x (enOf l i).q (enOf l i).c))) w):wpList Tryz.prog ops Q (o :: rest) a w :=
 wpList_load_en V hgd y ho b 0 i (by rw [Nat.zero_add]; exact hx) l hrd hi h
structure CpI (w0:World) (x:Bat) (p:Option Addr) (c k:Nat) (l:List En) (w:World):Prop where
 at_:BtAt w w0.heap.size x p c
 res:AgAt w (w0.heap.size+1) (btA Bat.zero none 0)
 own:w.ownsRow (w0.heap.size+2) 43 12 (.slice p x.ops.length c) x.ops.length (enCells l)
 map:l.map (·.x)=x.ops
 pa:∀ e,e ∈ l→Pa w e.x e.q e.c
 far:∀ e,e ∈ l→0<e.x.path.length→∀ a,e.q=some a→(a.block<w0.heap.size∨w0.heap.size+2≤a.block)∧(Value.slice p x.ops.length c).ownBlock≠some a.block
 new:∀ i,i<k→i<l.length→0<(enOf l i).x.path.length→∀ a,(enOf l i).q=some a→w0.heap.size≤a.block
 below:Below w0.heap.size w0 w
section
variable {w0 w w':World} {x:Bat} {p:Option Addr} {c k:Nat} {l:List En}
theorem CpI.len (h:CpI w0 x p c k l w):l.length=x.ops.length:=by rw [← h.map,List.length_map]
theorem CpI.kept (h:CpI w0 x p c k l w) (hb:Below w.heap.size w w'):CpI w0 x p c k l w' :=
 ⟨AgAt.kept h.at_ hb,h.res.kept hb,own_belowK h.own hb,h.map,fun e he=>(h.pa e he).kept hb,h.far,h.new,h.below.trans (hb.mono h.below.size)⟩
theorem CpI.step {g:Nat} {q:Option Addr} {cc B:Nat} (h:CpI w0 x (some ⟨g,0,none⟩) c k l w) (hp:Pa w (opOf x.ops k) q cc) (hq:∀ a,q=some a→B≤a.block) (hg:g<B) (hk:k<x.ops.length) :
  CpI w0 x (some ⟨g,0,none⟩) c (k+1) (l.set k ⟨opOf x.ops k,q,cc⟩) (w.setCells g (k * 12) (opA (opOf x.ops k) q cc).toList):=by
 have hst:=own_setCells (opA (opOf x.ops k) q cc).toList w (k * 12) h.own
 have hkl:k<l.length:=by rw [h.len]; exact hk
 have hge:w0.heap.size+2≤g:=(World.ownsRow.lt h.own g rfl).1
 have e:=setL_en l k ⟨opOf x.ops k,q,cc⟩ hkl
 have eo:(opA (opOf x.ops k) q cc).toList=opL (opOf x.ops k) q cc:=rfl
 have hT:Turns (fun j=>j=g) w (w.setCells g (k * 12) (opA (opOf x.ops k) q cc).toList):=(Turns.of_grown hst.2).mono fun j _ hj=>by cases hj; rfl
 have hmem:∀ e,e ∈ l.set k ⟨opOf x.ops k,q,cc⟩→e ∈ l∨e=⟨opOf x.ops k,q,cc⟩:=fun e he=>by
  rcases List.mem_or_eq_of_mem_set he with h1 | h1
  ·exact Or.inl h1
  ·exact Or.inr h1
 have hfar:∀ e,e ∈ l.set k ⟨opOf x.ops k,q,cc⟩→0<e.x.path.length→∀ a,e.q=some a→(a.block<w0.heap.size∨w0.heap.size+2≤a.block)∧(Value.slice (some ⟨g,0,none⟩) x.ops.length c).ownBlock≠some a.block:=fun e he h0 a ha=>by
  rcases hmem e he with h1 | rfl
  ·exact h.far e h1 h0 a ha
  ·have:=hq a ha
   exact ⟨Or.inr (by omega),fun hh=>by simp [Value.ownBlock] at hh; omega⟩
 refine ⟨AgAt.block h.at_ (hst.2.block _ (AgAt.lt h.at_) (by simp; omega)),AgAt.block h.res (hst.2.block _ (AgAt.lt h.res) (by simp; omega)),?_,?_,fun e he=>?_,hfar,?_,?_⟩
 ·rw [← e,← eo]; exact hst.1
 ·rw [List.map_set,h.map]
  apply List.ext_getElem?
  intro i
  by_cases hi:i=k
  ·subst hi; rw [List.getElem?_set_self (by exact hk)]; simp [opOf,hk]
  ·rw [List.getElem?_set_ne (fun e=>hi e.symm)]
 ·have hpa:Pa w e.x e.q e.c:=by
   rcases hmem e he with h1 | rfl
   ·exact h.pa e h1
   ·exact hp
  refine ⟨fun h0=>?_,hpa.nil,hpa.cap⟩
  rw [stCells_length] at h0
  refine hT.rd hpa.rd (fun a ha ea=>?_) (by rw [stCells_length]; exact h0)
  have:=(hfar e he (by omega) a ha).2
  exact this (by rw [← ea]; rfl)
 ·intro i hi hil h0 a ha
  rw [List.length_set] at hil
  by_cases hik:i=k
  ·subst hik
   have:enOf (l.set i ⟨opOf x.ops i,q,cc⟩) i=⟨opOf x.ops i,q,cc⟩:=by simp [enOf,List.getD,hil]
   rw [this] at ha
   have:=hq a ha
   omega
  ·have:enOf (l.set k ⟨opOf x.ops k,q,cc⟩) i=enOf l i:=by simp [enOf,List.getD,Ne.symm hik]
   rw [this] at ha h0
   exact h.new i (by omega) hil h0 a ha
 ·exact h.below.trans (hT.below (fun j _ hj=>by omega) h.below.size)
theorem CpI.done (h:CpI w0 x p c x.ops.length l w) (ht:Turns (fun j=>j=w0.heap.size+1) w w'):BopsN w0.heap.size w' x p c:=by
 obtain ⟨p',c',e,h1,h2,-,h3,h4⟩:=own_rd h.own
 obtain ⟨rfl,rfl⟩:p=p'∧c=c':=by cases e; exact ⟨rfl,rfl⟩
 refine ⟨l,⟨h.map,ht.rd h1 fun a ha ea=>by have:=(h4 a ha).1; omega,fun e he=>⟨fun h0=>?_,(h.pa e he).nil,(h.pa e he).cap⟩,h3,h2⟩,fun _ a ha=>by have:=(h4 a ha).1; omega,fun e he h0 a ha=>?_⟩
 ·rw [stCells_length] at h0
  refine ht.rd (h.pa e he).rd (fun a ha ea=>?_) (by rw [stCells_length]; exact h0)
  have:=(h.far e he (by omega) a ha).1
  omega
 ·obtain ⟨i,hi,rfl⟩:=List.mem_iff_getElem.1 he
  have e1:enOf l i=l[i]:=by simp [enOf,hi]
  exact h.new i (by rw [← h.len]; exact hi) hi (by rw [e1]; exact h0) a (by rw [e1]; exact ha)
end
def UnfB (w:World) (e:Be):Prop:=0<e.x.ops.length→∀ a,e.p=some a→∀ i,w.frozen? ⟨a.block,i,none⟩=false
theorem UnfB.turns {F G:Nat→Prop} {w w':World} {e:Be} (h:UnfB w e) (hb:BopsF F w e.x e.p e.c) (ht:Turns G w w') (hd:∀ k,F k→¬ G k):UnfB w' e:=fun h0 a ha i=>by
 obtain ⟨l,h1,h2,-⟩:=hb
 obtain ⟨b,o,e',hlt⟩:=h1.rd.addr (by rw [enCells_length,h1.len]; omega)
 have hF:=h2 h0 a ha
 have hfz:=h h0 a ha i
 rw [ha] at e'; cases e'
 rw [ht.frozen (p:=⟨b,i,none⟩) hlt (hd _ hF)]
 exact hfz
theorem CpI.unf {w0 w w':World} {x:Bat} {p:Option Addr} {c k:Nat} {l:List En} (h:CpI w0 x p c k l w) (ht:Turns (fun j=>j=w0.heap.size+1) w w'):UnfB w' ⟨x,p,c⟩:=fun _ a ha i=>by
 obtain ⟨p',c',e,-,-,-,-,h4⟩:=own_rd h.own
 obtain ⟨rfl,rfl⟩:p=p'∧c=c':=by cases e; exact ⟨rfl,rfl⟩
 have ho:=h.own
 have h5:=h4 a ha
 dsimp only at ha
 rw [ha,h5.2.2.2] at ho
 rw [ht.frozen (p:=⟨a.block,i,none⟩) h5.2.1 (by have:=h5.1; dsimp only; omega)]
 exact ho.frozenAt i
theorem bcopy_unf (x:Bat) (p:Option Addr) (c:Nat) (w:World) (h:Bops w x p c) (hl:x.ops.length≤5000) (hp:∀ y,y ∈ x.ops→y.path.length≤5000):Calls Tryz.prog 142 #[.agg (btA x p c)] w
  fun e w'=>∃ p' c',e=.returned (.agg (btA x p' c'))∧BopsN w.heap.size w' x p' c'∧Below w.heap.size w w'∧UnfB w' ⟨x,p',c'⟩:=by
 obtain ⟨l0,h⟩:=h
 have hb1:=(Below.refl w.heap.size w).alloc (Nat.le_refl _) (.cells (btA x p c) 81)
 have hb2:=(Below.refl (w.alloc (.cells (btA x p c) 81)).heap.size _).alloc (Nat.le_refl _) (.cells #[.int .i64 0,.int .i64 0,.int .i64 0,.slice none 0 0] 81)
 have HX:=Hi (show BtAt ((w.alloc (.cells (btA x p c) 81)).alloc (.cells #[.int .i64 0,.int .i64 0,.int .i64 0,.slice none 0 0] 81)) w.heap.size x p c from (AgAt.new w _ _).kept hb2)
 have HZ:=Hi (show AgAt ((w.alloc (.cells (btA x p c) 81)).alloc (.cells #[.int .i64 0,.int .i64 0,.int .i64 0,.slice none 0 0] 81)) (w.heap.size+1) (btA Bat.zero none 0) from by
  have:=AgAt.new (w.alloc (.cells (btA x p c) 81)) (btA Bat.zero none 0) 81
  rw [show (w.alloc (.cells (btA x p c) 81)).heap.size=w.heap.size+1 from by simp] at this
  exact this)
 have HB:=Hi (hb1.trans (hb2.mono (by simp)))
 have HS:=Hi (show ((w.alloc (.cells (btA x p c) 81)).alloc (.cells #[.int .i64 0,.int .i64 0,.int .i64 0,.slice none 0 0] 81)).heap.size=w.heap.size+2 from by simp)
 have HPA:=Hi (show ∀ e,e ∈ l0→Pa w e.x e.q e.c from h.pa)
 have HMP:=Hi h.map
 have HLL:=Hi h.len
 have HC:=Hi (oclone_any p c l0 _ (h.rd.below HB.out) h.nil (by rw [h.len]; exact hl))
 rw [h.len] at HC
 have HC:=Hi (HC.out.mono (R':=fun e w'=>∃ p' c',e=.returned (.slice p' x.ops.length c')∧w'.ownsRow (w.heap.size+2) 43 12 (.slice p' x.ops.length c') x.ops.length (enCells l0)∧Below ((w.alloc (.cells (btA x p c) 81)).alloc (.cells #[.int .i64 0,.int .i64 0,.int .i64 0,.slice none 0 0] 81)).heap.size ((w.alloc (.cells (btA x p c) 81)).alloc (.cells #[.int .i64 0,.int .i64 0,.int .i64 0,.slice none 0 0] 81)) w') (by
  rintro e w' ⟨p',c',h1,h2,h3⟩
  rw [HLL.out] at h1 h2
  rw [HS.out] at h2
  exact ⟨p',c',h1,h2,h3⟩))
 obtain ⟨x0,x1,x2,x3⟩:=BtAt.cells HX.out
 clear h hb1 hb2
 go_enter Tryz.func142,Tryz.ntmps142
 go_wp2_with fail
 refine HC.out.mono ?_
 rintro e w1 ⟨p1,c1,rfl,ho1,hb1⟩
 have HX1:=Hi (AgAt.kept HX.out hb1)
 have y3:=(BtAt.cells HX1.out).2.2.2
 have yf:=AgAt.free HX1.out 3
 have T:=Hi (show CpI w x p1 c1 0 l0 (w1.setCell ⟨w.heap.size,3,none⟩ (.slice p1 x.ops.length c1)) from by
  have hT:=set_turns w.heap.size w1 3 (.slice p1 x.ops.length c1)
  have hlt:=World.ownsRow.lt ho1
  have hbw:Below w.heap.size w (w1.setCell ⟨w.heap.size,3,none⟩ (.slice p1 x.ops.length c1)):=(HB.out.trans (hb1.mono HB.out.size)).setCell (by simp) _
  refine ⟨?_,(AgAt.kept HZ.out hb1).block (hT.block _ (AgAt.lt (AgAt.kept HZ.out hb1)) (by omega)),hT.own ho1 fun g hg e=>by have:=(hlt g hg).1; omega,HMP.out,fun e he=>(HPA.out e he).kept hbw,fun e he h0 a ha=>?_,fun i hi=>absurd hi (Nat.not_lt_zero _),hbw⟩
  ·have:=AgAt.put HX1.out 3 (.slice p1 x.ops.length c1)
   have e:(btA x p c).setIfInBounds 3 (.slice p1 x.ops.length c1)=btA x p1 c1:=by unfold btA; simp
   rw [e] at this
   exact this
  ·obtain ⟨b,o,e',hb⟩:=(HPA.out e he).rd.addr (by rw [stCells_length]; omega)
   rw [ha] at e'; cases e'
   exact ⟨Or.inl hb,fun hh=>by have:=(hlt b hh).1; omega⟩)
 have z3:=(BtAt.cells T.out.at_).2.2.2
 clear ho1 hb1 HX HZ HPA HMP HC HB x0 x1 x2 x3
 go_wp2
 generalize w1.setCell ⟨w.heap.size,3,none⟩ (.slice p1 x.ops.length c1)=w2 at *
 clear y3 yf HX1
 go_loopw [12] (fun i wr=>∃ (k:Nat) (l:List En),k≤x.ops.length∧i=.int .i64 (k:Int)∧CpI w x p1 c1 k l wr) (fun i _=>x.ops.length - (intOf i).toNat)
 case atStart=>exact ⟨0,l0,Nat.zero_le _,rfl,T.out⟩
 case round =>
  clear T z3 HLL HS
  obtain ⟨k,l,hk,rfl,ht⟩:=hrel
  have T:=Hi ht
  clear ht
  by_cases hlt:k<x.ops.length
  ·have hd0:decide ((k:Int)<(x.ops.length:Int))=true:=decide_eq_true (by omega)
   obtain ⟨p2,c2,e2,hr2,-,-,-,hg2⟩:=own_rd T.out.own
   obtain ⟨rfl,rfl⟩:p1=p2∧c1=c2:=by cases e2; exact ⟨rfl,rfl⟩
   obtain ⟨g,o,rfl,hgl⟩:=hr2.addr (by rw [enCells_length,T.out.len]; omega)
   have ho:=(hg2 _ rfl).2.2.2
   simp only [Addr.mk.injEq,and_true,true_and] at ho
   subst ho
   have HGL:=Hi (And.intro hgl (World.ownsRow.lt T.out.own g rfl).1)
   have HRD:=Hi hr2
   have HKL:=Hi (show k<l.length by rw [T.out.len]; exact hlt)
   have HXK:=Hi (enOf_x T.out.map k)
   have HPK:=Hi (T.out.pa _ (enOf_mem HKL.out))
   have HPL:=Hi (hp _ (opOf_mem hlt))
   rw [HXK.out] at HPK
   have hkll:=HKL.out
   clear e2 hr2 hg2 hgl
   go_upto_region 5 with (first | (refine wpList_load_en0 otP rfl _ rfl g k rfl l HRD.out HKL.out ?_; rw [HXK.out]) | (refine wpList_store_newag agO rfl _ _ rfl rfl _ rfl rfl rfl (opA_one _ _ _) ?_; intro w4 hv4 hb4))
   replace T:=Hi (T.out.kept (hb4.trans (Below.drew (Below.refl _ _))))
   have HPK:=Hi (HPK.out.kept (hb4.trans (Below.drew (Below.refl _ _))))
   have HGL:=Hi (show w.heap.size+2≤g∧g<wr.heap.size∧wr.heap.size<w4.heap.size from ⟨HGL.out.2,HGL.out.1,AgAt.lt hv4⟩)
   have hS0:BtAt w4.drew w.heap.size x (some ⟨g,0,none⟩) c1∧AgAt w4.drew wr.heap.size (opA (opOf x.ops k) (enOf l k).q (enOf l k).c):=⟨T.out.at_,hv4⟩
   clear hb4 hv4
   refine wp_region_held_drew (S:=fun W=>BtAt W w.heap.size x (some ⟨g,0,none⟩) c1∧AgAt W wr.heap.size (opA (opOf x.ops k) (enOf l k).q (enOf l k).c)) (by kernel_rfl) hS0 (fun hS=>?_)
   clear hS0
   have HSZ:=Hi (show w4.heap.size=w4.drew.heap.size from rfl)
   generalize w4.drew=wd at *
   rw [HSZ.out] at HGL
   have HOC:=Hi (opcopy_any (opOf x.ops k) (enOf l k).q (enOf l k).c wd HPK.out HPL.out)
   refine tX 0 rfl hS ?_
   refine tK 1 (v:=?_) rfl ?_ hS ?_
   rotate_left
   ·intro W hSW
    obtain ⟨x0,x1,x2,x3⟩:=BtAt.cells hSW.1
    go_simp
    all_goals with_reducible rfl
   refine tX 2 rfl hS ?_
   go_simp
   refine tK 3 (v:=.agg (opA (opOf x.ops k) (enOf l k).q (enOf l k).c)) rfl (fun W hSW=>exec_load_ag agO rfl rfl rfl hSW.2) hS ?_
   go_simp
   refine rD 4 rfl (fun K hK=>?_)
   go_simp
   go_wp2_with ((go_at_call 235; refine HOC.out.mono ?_; rintro e w5 ⟨q2,c2,rfl,hp2,hb2,hn2⟩))
   replace T:=Hi (T.out.kept hb2)
   have HP2:=Hi hp2
   have HN2:=Hi hn2
   have HZ5:=Hi hb2.size
   refine hK.out _ _ ⟨AgAt.kept hS.1 hb2,AgAt.kept hS.2 hb2⟩ (fun hS=>?_)
   clear hK K hb2 hp2 hn2
   refine tX 5 rfl hS ?_
   go_simp
   refine rD 6 rfl (fun K hK=>?_)
   refine step_of rfl ?_
   refine wp_store_mid _ _ _ rfl g (k * 12) (opA (opOf x.ops k) q2 c2) rfl rfl (by rw [opA_size]; exact own_there T.out.own _ _ (by rw [enCells_length]; omega)) agO.size (opA_one _ _ _) ?_
   have hst:=own_setCells (opA (opOf x.ops k) q2 c2).toList w5 (k * 12) T.out.own
   have HT6:=Hi (T.out.step HP2.out HN2.out (by have:=HGL.out; omega) (by omega))
   refine hK.out _ _ ⟨AgAt.block hS.1 (hst.2.block _ (AgAt.lt hS.1) (by have:=HGL.out; simp; omega)),AgAt.block hS.2 (hst.2.block _ (AgAt.lt hS.2) (by have:=HGL.out; simp; omega))⟩ (fun hS=>?_)
   clear hK K hst
   refine wpAnyH_done (by kernel_rfl) ?_ _
   go_simp
   generalize w5.setCells g (k * 12) (opA (opOf x.ops k) q2 c2).toList=w6 at *
   clear hS
   go_wp2
   go_roundw
   case rel=>exact ⟨k+1,_,by omega,by go_num,HT6.out⟩
   case measure=>simp [intOf]; omega
  ·obtain rfl:k=x.ops.length:=by omega
   have hd0:decide ((x.ops.length:Int)<(x.ops.length:Int))=false:=decide_eq_false (by omega)
   go_wp2_with (first | (refine wpList_load_ag btP (by kernel_rfl) _ rfl _ rfl (A:=btA _ p1 c1) rfl T.out.at_ ?_) | (refine wpList_store_ag btP rfl _ _ rfl _ rfl _ T.out.res rfl rfl rfl (btA_one _ _ _) ?_; intro wy hvy hko hsz hbn))
   refine bodyPost_ret (results_ag btP _ rfl rfl hvy rfl) rfl ?_
   exact ⟨p1,c1,rfl,T.out.done (stored_turns hko hsz hbn),hbn _ _ T.out.below (by omega),T.out.unf (stored_turns hko hsz hbn)⟩
theorem bcopy_any (x:Bat) (p:Option Addr) (c:Nat) (w:World) (h:Bops w x p c) (hl:x.ops.length≤5000) (hp:∀ y,y ∈ x.ops→y.path.length≤5000):Calls Tryz.prog 142 #[.agg (btA x p c)] w
  fun e w'=>∃ p' c',e=.returned (.agg (btA x p' c'))∧BopsN w.heap.size w' x p' c'∧Below w.heap.size w w' :=
 (bcopy_unf x p c w h hl hp).mono fun _ _ ⟨p',c',h1,h2,h3,_⟩=>⟨p',c',h1,h2,h3⟩
open Go.RowKit
theorem oinfo_bt:(Tryz.prog.info? 81).map (fun i=>(i.zero,i.size,i.bytes))=some (some (.agg (btA Bat.zero none 0)),4,48):=by kernel_rfl
theorem run_build_bt (w:World) (y:Bat) (q:Option Addr) (c:Nat):(Instr.buildSlice 103 1 #[(0,.agg (btA y q c))]).run Tryz.prog w=.ok (.slice (some ⟨w.heap.size,0,none⟩) 1 1) (w.alloc (.cells (btA y q c) 81)):=by kernel_rfl
theorem wp_build_bt {w:World} {o:Oper} {a:Act} {K:Act→World→Prop} {Q:Exit→Act→World→Prop} (x:Operand) (ho:o.op=.buildSlice 103 1 #[(0,x)]) (y:Bat) (q:Option Addr) (c:Nat) (hx:a.eval x=.agg (btA y q c))
  (h:K (a.put o.dst (.slice (some ⟨w.heap.size,0,none⟩) 1 1)) (w.alloc (.cells (btA y q c) 81))):Oper.wp Tryz.prog o a w K Q:=by
 unfold Oper.wp execOp
 simp only [ho,Sem.run_bind,Sem.run_pure,Result.andThen_ok,List.map_toArray,List.map_cons,List.map_nil,hx,run_build_bt]
 exact h
theorem wpList_build_bt {w:World} {ops:Array Oper} {rest:List Oper} {o:Oper} {a:Act} {Q:Exit→Act→World→Prop} (hgd:o.guard=none) (x:Operand) (ho:o.op=.buildSlice 103 1 #[(0,x)]) (y:Bat) (q:Option Addr) (c:Nat) (hx:a.eval x=.agg (btA y q c))
  (h:wpList Tryz.prog ops Q rest (a.put o.dst (.slice (some ⟨w.heap.size,0,none⟩) 1 1)) (w.alloc (.cells (btA y q c) 81))):wpList Tryz.prog ops Q (o :: rest) a w :=
 wpList_plain hgd fun _ hK=>wp_build_bt x ho y q c hx (hK _ _ h)
theorem rd_bt_one (w:World) (e:Be) (E:TypeId):Rd (w.alloc (.cells (btA e.x e.p e.c) E)) (some ⟨w.heap.size,0,none⟩) (beL e):=fun _=>⟨_,0,rfl,fun i u hu=>by
 rw [Nat.zero_add,World.cell?_alloc_at _ _ _ _ rfl,← hu,← beL_arr]
 simp⟩
structure BRow (B:Nat) (w:World) (p:Option Addr) (c:Nat) (l:List Be):Prop where
 own:w.ownsRow B 81 4 (.slice p l.length c) l.length (beCells l)
 ops:∀ e,e ∈ l→BopsF (fun k=>B≤k∧(Value.slice p l.length c).ownBlock≠some k) w e.x e.p e.c
section
variable {B:Nat} {w w':World} {p p':Option Addr} {c c':Nat} {l:List Be}
theorem BRow.nil (B:Nat) (w:World):BRow B w none 0 []:=⟨World.ownsRow_nil _ _ _ _,fun _ h=>(by cases h)⟩
theorem BRow.kept (h:BRow B w p c l) (hb:Below w.heap.size w w'):BRow B w' p c l:=⟨own_belowK h.own hb,fun e he=>(h.ops e he).below hb⟩
theorem BRow.rd (h:BRow B w p c l):Rd w p (beCells l)∧l.length≤c∧(p=none→c=0):=by
 obtain ⟨p2,c2,e,h1,h2,-,h3,-⟩:=own_rd h.own
 obtain ⟨rfl,rfl⟩:p=p2∧c=c2:=by cases e; exact ⟨rfl,rfl⟩
 exact ⟨h1,h2,h3⟩
theorem BRow.push {e:Be} (h:BRow B w p c l) (he:BopsF (fun k=>B≤k∧(Value.slice p l.length c).ownBlock≠some k) w e.x e.p e.c)
  (ho:w'.ownsRow B 81 4 (.slice p' (l.length+1) c') (l.length+1) (beCells l ++ beL e)) (hg:w.grownBy w' (Value.slice p l.length c).ownBlock)
  (hw:∀ g,(Value.slice p' (l.length+1) c').ownBlock=some g→(Value.slice p l.length c).ownBlock=some g∨w.heap.size≤g):BRow B w' p' c' (l ++ [e]):=by
 have hl:(l ++ [e]).length=l.length+1:=by simp
 have hk:∀ b:Be,BopsF (fun k=>B≤k∧(Value.slice p l.length c).ownBlock≠some k) w b.x b.p b.c→BopsF (fun k=>B≤k∧(Value.slice p' (l.length+1) c').ownBlock≠some k) w' b.x b.p b.c:=fun b hb=>by
  have h1:=hb.mono (G:=fun k=>B≤k∧(Value.slice p l.length c).ownBlock≠some k∧(Value.slice p' (l.length+1) c').ownBlock≠some k) fun k hk ⟨h1,h2⟩=>⟨h1,h2,fun hh=>by
   rcases hw k hh with h3 | h3
   ·exact h2 h3
   ·omega⟩
  have h2:=h1.turns (Turns.of_grown hg) fun k hk hh=>hk.2.1 hh
  exact h2.mono fun k _ hk=>⟨hk.1,hk.2.2⟩
 refine ⟨?_,fun b hb=>?_⟩
 ·rw [hl,beCells_append,beCells_sing]; exact ho
 ·rw [hl]
  rcases List.mem_append.1 hb with hb | hb
  ·exact hk b (h.ops b hb)
  ·obtain rfl:b=e:=by simpa using hb
   exact hk b he
end
def CpSz (x:Bat):Prop:=x.ops.length≤5000∧∀ y,y ∈ x.ops→y.path.length≤5000
def Copied (l:List Be) (w:World) (e:Ending) (w':World):Prop :=
 ∃ p' c' l',e=.returned (.slice p' l.length c')∧l'.map (·.x)=l.map (·.x)∧BRow w.heap.size w' p' c' l'∧Below w.heap.size w w'
def URow (B:Nat) (w:World) (p:Option Addr) (c:Nat) (l:List Be):Prop:=BRow B w p c l∧∀ e,e ∈ l→UnfB w e
theorem URow.nil (B:Nat) (w:World):URow B w none 0 []:=⟨BRow.nil _ _,fun _ h=>(by cases h)⟩
def CopiedU (l:List Be) (w:World) (e:Ending) (w':World):Prop :=
 ∃ p' c' l',e=.returned (.slice p' l.length c')∧l'.map (·.x)=l.map (·.x)∧URow w.heap.size w' p' c' l'∧Below w.heap.size w w'
theorem copies_unf (p:Option Addr) (c:Nat) (l:List Be) (w:World) (h:Rd w p (beCells l)) (ho:∀ e,e ∈ l→Bops w e.x e.p e.c) (hs:∀ e,e ∈ l→CpSz e.x) (hl:l.length≤5000):Calls Tryz.prog 194 #[.slice p l.length c] w (CopiedU l w):=by
 obtain ⟨i0,hi,hz0,hz1,hz2⟩:=info_parts oinfo_bt
 have HR:=Hi (fun W (hW:Below w.heap.size w W)=>h.below hW)
 have HCC:=Hi (fun (k:Nat) (hk:k<l.length) W (hW:Below w.heap.size w W)=>bcopy_unf (beOf l k).x (beOf l k).p (beOf l k).c W ((ho _ (beOf_mem hk)).kept hW) (hs _ (beOf_mem hk)).1 (hs _ (beOf_mem hk)).2)
 clear h ho hs
 go_enter Tryz.func194,Tryz.ntmps194
 go_wp2
 go_loopw [2,7] (fun v i wr=>∃ (k:Nat) (p':Option Addr) (c':Nat) (l':List Be),k≤l.length∧i=.int .i64 (k:Int)∧v=.slice p' k c'∧l'.map (·.x)=(l.take k).map (·.x)∧URow w.heap.size wr p' c' l'∧Below w.heap.size w wr) (fun _ i _=>l.length - (intOf i).toNat)
 case atStart=>exact ⟨0,none,0,[],Nat.zero_le _,rfl,rfl,rfl,URow.nil _ _,Below.refl _ _⟩
 case round =>
  obtain ⟨k,p',c',l',hk,rfl,rfl,hm,⟨hrow,huf⟩,hbw⟩:=hrel
  have HUF:=Hi huf
  clear huf
  have HLK:=Hi (show l'.length=k from by have:=congrArg List.length hm; simp only [List.length_map,List.length_take] at this; omega)
  have HM:=Hi hm
  have HROW:=Hi hrow
  have HBW:=Hi hbw
  clear hm hrow hbw
  by_cases hlt:k<l.length
  ·have hd0:decide ((k:Int)<(l.length:Int))=true:=decide_eq_true (by omega)
   obtain ⟨b,o,rfl,hb⟩:=(HR.out _ HBW.out).addr (by rw [beCells_length]; omega)
   have HRD:=Hi (HR.out _ HBW.out)
   have HC:=Hi (HCC.out k hlt)
   have HTK:=Hi (show (l.take (k+1)).map (·.x)=(l.take k).map (·.x) ++ [(beOf l k).x] from by
    rw [List.take_succ_eq_append_getElem hlt,List.map_append]
    simp [beOf,hlt])
   go_wp2_with (first | (refine wpList_load_be btP rfl _ rfl b o k rfl l HRD.out hlt ?_) | (refine wpList_store_newag btP rfl _ _ rfl rfl _ rfl rfl rfl (btA_one _ _ _) ?_; intro w4 hv4 hb4) | (refine wpList_load_ag btP rfl _ rfl _ rfl rfl hv4 ?_))
   have HB4:=Hi (HBW.out.trans (hb4.mono HBW.out.size))
   have HROW4:=Hi (HROW.out.kept hb4)
   have HUF4:=Hi (fun e he=>(HUF.out e he).turns (HROW.out.ops e he) (Turns.of_below hb4) (G:=fun _=>False) fun _ _ h=>h)
   clear hb4 hv4
   refine (HC.out w4 HB4.out).mono ?_
   rintro e w5 ⟨p5,c5,rfl,hp5,hb5,hu5⟩
   have hb6:=(Below.refl w5.heap.size w5).alloc (Nat.le_refl _) (.cells (btA (beOf l k).x p5 c5) 81)
   have HROW6:=Hi ((HROW4.out.kept hb5).kept hb6)
   have HUF6:=Hi (fun e he=>((HUF4.out e he).turns (HROW4.out.ops e he) (Turns.of_below hb5) (G:=fun _=>False) fun _ _ h=>h).turns ((HROW4.out.kept hb5).ops e he) (Turns.of_below hb6) (G:=fun _=>False) fun _ _ h=>h)
   have HU6:=Hi (UnfB.turns (G:=fun _=>False) hu5 (BopsF.ofN hp5) (Turns.of_below hb6) fun _ _ h=>h)
   have HB5:=Hi (HB4.out.trans (hb5.mono HB4.out.size))
   have HB6:=Hi (HB5.out.trans (hb6.mono HB5.out.size))
   have HP6:=Hi (show BopsF (fun j=>w.heap.size≤j∧(Value.slice p' l'.length c').ownBlock≠some j) (w5.alloc (.cells (btA (beOf l k).x p5 c5) 81)) (beOf l k).x p5 c5 from
    ((BopsF.ofN hp5).below hb6).mono fun j _ hj=>⟨Nat.le_trans HB4.out.size hj,fun hh=>by have:=(World.ownsRow.lt HROW4.out.own j hh).2; omega⟩)
   have HRW:=Hi (rd_bt_one w5 ⟨(beOf l k).x,p5,c5⟩ 81)
   have HSZ:=Hi (show w.heap.size≤(w5.alloc (.cells (btA (beOf l k).x p5 c5) 81)).heap.size from HB6.out.size)
   rw [HLK.out] at HP6
   have HOW:=Hi HROW6.out.own
   rw [HLK.out] at HOW
   clear hp5 hb5 hb6 hu5
   generalize beOf l k=be at *
   go_wp2_with (first | (refine wpList_build_bt rfl _ rfl be.x p5 c5 rfl ?_) | (at_builtin; refine wpList_append_k rfl _ _ 103 rfl w.heap.size 81 i0 _ 4 48 Tryz.underlying103 hi hz0 hz1 (by decide) hz2 (by decide) rfl _ k (beCells l') rfl HOW.out _ 1 1 (beL ⟨be.x,p5,c5⟩) rfl rfl HRW.out (fun h=>by cases h) (beL_one _) (by omega) HSZ.out ?_; intro p7 c7 w7 ho7 hg7 hw7))
   have HE:=Hi (show BRow w.heap.size w7 p7 c7 (l' ++ [⟨be.x,p5,c5⟩]) from by
    have hk:=HLK.out
    have h6:=HROW6.out
    have hpp:=HP6.out
    rw [← hk] at ho7 hg7 hw7 hpp
    exact h6.push hpp ho7 hg7 hw7)
   have HUF7:=Hi (show ∀ e,e ∈ l' ++ [⟨be.x,p5,c5⟩]→UnfB w7 e from fun e he=>by
    have h6:=HROW6.out
    have hpp:=HP6.out
    have hgg:=hg7
    rw [← HLK.out] at hgg hpp
    rcases List.mem_append.1 he with he | he
    ·exact (HUF6.out e he).turns (h6.ops e he) (Turns.of_grown hgg) fun k hk hh=>hk.2 hh
    ·obtain rfl:e=⟨be.x,p5,c5⟩:=by simpa using he
     exact UnfB.turns HU6.out hpp (Turns.of_grown hgg) fun k hk hh=>hk.2 hh)
   have HB7:=Hi (show Below w.heap.size w w7 from HB6.out.trans ((Turns.of_grown hg7).below (fun j _ hj=>by
    exact (World.ownsRow.lt HOW.out j hj).1) HSZ.out))
   clear ho7 hg7 hw7
   go_wp2
   go_roundw
   case rel=>exact ⟨k+1,_,_,_,by omega,by go_num,rfl,by rw [HTK.out,List.map_append,HM.out]; rfl,⟨HE.out,HUF7.out⟩,HB7.out⟩
   case measure=>simp [intOf]; omega
  ·obtain rfl:k=l.length:=by omega
   have hd0:decide ((l.length:Int)<(l.length:Int))=false:=decide_eq_false (by omega)
   have HE:=Hi (show CopiedU l w (.returned (.slice p' l.length c')) wr from ⟨p',c',l',rfl,by rw [HM.out,List.take_length],⟨HROW.out,HUF.out⟩,HBW.out⟩)
   go_wp2
   go_ret
   exact HE.out
open Go.RowKit
open Go.Maps (Keyed)
section
variable {w:World} {M:Nat} {l:List Be}
theorem WMap.mem_of {es:Array MapEntry} (he:es.toList.map (fun e=>(e.key,e.val))=l.map fun b=>(plA b.x.r b.x.s,Value.agg (btA b.x b.p b.c))) {e0:MapEntry} (hm:e0 ∈ es.toList) {r s:Int} (hk:e0.key=plA r s) :
  ∃ b ∈ l,atPl r s b.x=true∧e0.val=Value.agg (btA b.x b.p b.c):=by
 have:(e0.key,e0.val) ∈ l.map fun b=>(plA b.x.r b.x.s,Value.agg (btA b.x b.p b.c)):=by rw [← he]; exact List.mem_map.2 ⟨e0,hm,rfl⟩
 obtain ⟨b,hb,e'⟩:=List.mem_map.1 this
 simp only [Prod.mk.injEq] at e'
 exact ⟨b,hb,atPl_iff.2 (plA_inj (e'.1.trans hk)),e'.2.symm⟩
theorem WMap.of_mem {es:Array MapEntry} (he:es.toList.map (fun e=>(e.key,e.val))=l.map fun b=>(plA b.x.r b.x.s,Value.agg (btA b.x b.p b.c))) {b:Be} (hb:b ∈ l):∃ e0 ∈ es.toList,e0.key=plA b.x.r b.x.s:=by
 have:(plA b.x.r b.x.s,Value.agg (btA b.x b.p b.c)) ∈ es.toList.map (fun e=>(e.key,e.val)):=by rw [he]; exact List.mem_map.2 ⟨b,hb,rfl⟩
 obtain ⟨e,hm,e'⟩:=List.mem_map.1 this
 simp only [Prod.mk.injEq] at e'
 exact ⟨e,hm,e'.1⟩
theorem be_one (h:l.Pairwise fun a b=>¬ (a.x.r=b.x.r∧a.x.s=b.x.s)) {a b:Be} (ha:a ∈ l) (hb:b ∈ l) {r s:Int} (h1:atPl r s a.x=true) (h2:atPl r s b.x=true):a=b:=by
 have e1:=atPl_iff.1 h1
 have e2:=atPl_iff.1 h2
 induction l with
 | nil=>cases ha
 | cons c l ih =>
  obtain ⟨k1,k2⟩:=List.pairwise_cons.1 h
  rcases List.mem_cons.1 ha with rfl | ha' <;> rcases List.mem_cons.1 hb with rfl | hb'
  ·rfl
  ·exact absurd ⟨by rw [e1.1,e2.1],by rw [e1.2,e2.2]⟩ (k1 b hb')
  ·exact absurd ⟨by rw [e1.1,e2.1],by rw [e1.2,e2.2]⟩ (k1 a ha')
  ·exact ih k2 ha' hb'
theorem WMap.look_no (h:WMap w M l) (r s:Int) (hr:(Lit.int .i64 r).wf=true) (hs:(Lit.int .i64 s).wf=true) (hn:∀ b ∈ l,atPl r s b.x=false) :
  (Instr.lookup 216 (.map (some M)) (plA r s) true).run Tryz.prog w=.ok (.tuple #[.agg (btA Bat.zero none 0),.bool false]) w:=by
 obtain ⟨es,clock,hb,he⟩:=h.ex
 obtain ⟨kl,hkey⟩:=key_pl r s hr hs
 rcases lawPl.find w hkey es.toList (h.keys he) with ⟨h1,h2⟩ | ⟨j,e0,h1,h2,h3⟩
 ·simp [Instr.lookup,run_underlying Tryz.underlying216,MapKept.run_getObj_map hb,lawPl.check w _ hkey,h1,Result.andThen]
  rfl
 ·obtain ⟨b,hb',h4,-⟩:=WMap.mem_of he (List.mem_of_getElem? h2) h3
  rw [hn b hb'] at h4
  cases h4
theorem WMap.look_yes (h:WMap w M l) {b:Be} (hm:b ∈ l) (r s:Int) (hat:atPl r s b.x=true) :
  (Instr.lookup 216 (.map (some M)) (plA r s) true).run Tryz.prog w=.ok (.tuple #[.agg (btA b.x b.p b.c),.bool true]) w:=by
 obtain ⟨es,clock,hb,he⟩:=h.ex
 have e1:=atPl_iff.1 hat
 have hw:=h.wf b hm
 unfold plWf at hw
 rw [e1.1,e1.2] at hw
 obtain ⟨kl,hkey⟩:=key_pl r s hw.1 hw.2
 rcases lawPl.find w hkey es.toList (h.keys he) with ⟨h1,h2⟩ | ⟨j,e0,h1,h2,h3⟩
 ·obtain ⟨e0,h3,h4⟩:=WMap.of_mem he hm
  rw [e1.1,e1.2] at h4
  exact absurd h4 (h2 e0 h3)
 ·obtain ⟨b',hb',h4,h5⟩:=WMap.mem_of he (List.mem_of_getElem? h2) h3
  obtain rfl:=be_one h.apart hm hb' hat h4
  simp [Instr.lookup,run_underlying Tryz.underlying216,MapKept.run_getObj_map hb,lawPl.check w _ hkey,h1,h5,Result.andThen]
theorem WMap.upd (h:WMap w M l) (b:Be) (hw:plWf b.x) (hn:∀ a ∈ l,atPl b.x.r b.x.s a.x=false) :
  ∃ w',(Instr.mapUpdate 216 (.map (some M)) (plA b.x.r b.x.s) (.agg (btA b.x b.p b.c))).run Tryz.prog w=.ok () w'∧WMap w' M (l ++ [b])∧Turns (fun k=>k=M) w w'∧w'.heap.size=w.heap.size:=by
 obtain ⟨es,clock,hb,he⟩:=h.ex
 obtain ⟨kl,hkey⟩:=key_pl b.x.r b.x.s hw.1 hw.2
 rcases lawPl.find w hkey es.toList (h.keys he) with ⟨h1,h2⟩ | ⟨j,e0,h1,h2,h3⟩
 ·refine ⟨Go.ChangeMaps.setBlock w M (.map (es.push ⟨plA b.x.r b.x.s,.agg (btA b.x b.p b.c),clock⟩) (clock+1)),?_,⟨⟨_,_,Go.ChangeMaps.heap_setBlock_same hb _,?_⟩,?_,?_,⟨_,_,Go.ChangeMaps.heap_setBlock_same hb _,?_,?_⟩⟩,setBlock_turns hb _,by simp [Go.ChangeMaps.setBlock]⟩
  ·simp [Instr.mapUpdate,run_underlying Tryz.underlying216,MapKept.run_getObj_map hb,lawPl.check w false hkey,h1,MapKept.run_setObj_map _ hb,Result.andThen,Go.ChangeMaps.setBlock]
  ·simp [he]
  ·intro e hm
   rcases List.mem_append.1 hm with hm | hm
   ·exact h.wf e hm
   ·obtain rfl:e=b:=by simpa using hm
    exact hw
  ·refine List.pairwise_append.2 ⟨h.apart,List.pairwise_singleton _ _,fun a ha c hc=>?_⟩
   obtain rfl:c=b:=by simpa using hc
   intro hh
   have:=hn a ha
   rw [atPl_iff.2 hh] at this
   cases this
  ·obtain ⟨es2,clock2,hb2,hf1,-⟩:=h.fresh
   obtain ⟨rfl,rfl⟩:es2=es∧clock2=clock:=by rw [hb] at hb2; cases hb2; exact ⟨rfl,rfl⟩
   intro e hm
   rw [Array.toList_push] at hm
   rcases List.mem_append.1 hm with hm | hm
   ·have:=hf1 e hm
    omega
   ·obtain rfl:=List.mem_singleton.1 hm
    exact Nat.lt_succ_self _
  ·obtain ⟨es2,clock2,hb2,hf1,hf2⟩:=h.fresh
   obtain ⟨rfl,rfl⟩:es2=es∧clock2=clock:=by rw [hb] at hb2; cases hb2; exact ⟨rfl,rfl⟩
   rw [Array.toList_push,List.map_append]
   refine List.nodup_append.2 ⟨hf2,by simp,fun x hx y hy e=>?_⟩
   obtain ⟨z,hz,rfl⟩:=List.mem_map.1 hx
   have h1:=hf1 z hz
   have h2:y=clock2:=by simpa using hy
   omega
 ·obtain ⟨a,ha,h4,-⟩:=WMap.mem_of he (List.mem_of_getElem? h2) h3
  rw [hn a ha] at h4
  cases h4
theorem WMap.del (h:WMap w M l) {b:Be} (hm:b ∈ l) (r s:Int) (hat:atPl r s b.x=true) :
  ∃ w',(∀ ty,(Builtin.delete_ #[216,281] ty #[.map (some M),plA r s]).run Tryz.prog w=.ok (.tuple #[]) w')∧WMap w' M (l.filter fun a=>!atPl r s a.x)∧Turns (fun k=>k=M) w w'∧w'.heap.size=w.heap.size:=by
 obtain ⟨es,clock,hb,he⟩:=h.ex
 have e1:=atPl_iff.1 hat
 have hw:=h.wf b hm
 unfold plWf at hw
 rw [e1.1,e1.2] at hw
 obtain ⟨kl,hkey⟩:=key_pl r s hw.1 hw.2
 rcases lawPl.find w hkey es.toList (h.keys he) with ⟨h1,h2⟩ | ⟨j,e0,h1,h2,h3⟩
 ·obtain ⟨e0,h3,h4⟩:=WMap.of_mem he hm
  rw [e1.1,e1.2] at h4
  exact absurd h4 (h2 e0 h3)
 ·have hjl:j<es.toList.length:=(List.getElem?_eq_some_iff.1 h2).1
  have hjs:j<es.size:=by simpa using hjl
  have hsub:(es.eraseIdxIfInBounds j).toList=es.toList.eraseIdx j:=by
   unfold Array.eraseIdxIfInBounds
   rw [dif_pos hjs]
   simp
  have hll:l.length=es.toList.length:=by have:=congrArg List.length he; simpa using this.symm
  have hjb:∃ a,l[j]?=some a:=⟨_,List.getElem?_eq_getElem (by omega)⟩
  obtain ⟨a,hja⟩:=hjb
  have hae:atPl r s a.x=true:=by
   have h6:(es.toList.map fun e=>(e.key,e.val))[j]?=(l.map fun b=>(plA b.x.r b.x.s,Value.agg (btA b.x b.p b.c)))[j]?:=by rw [he]
   rw [List.getElem?_map,List.getElem?_map,h2,hja] at h6
   simp only [Option.map_some,Option.some.injEq,Prod.mk.injEq] at h6
   exact atPl_iff.2 (plA_inj (h6.1.symm.trans h3))
  have hfil:=Go.ChangeMaps.filter_eq_eraseIdx (fun a:Be=>atPl r s a.x) l j a hja hae (h.apart.imp fun {a b} hne ⟨k1,k2⟩=>hne ⟨(atPl_iff.1 k1).1.trans (atPl_iff.1 k2).1.symm,(atPl_iff.1 k1).2.trans (atPl_iff.1 k2).2.symm⟩)
  refine ⟨Go.ChangeMaps.setBlock w M (.map (es.eraseIdxIfInBounds j) clock),?_,⟨⟨_,_,Go.ChangeMaps.heap_setBlock_same hb _,?_⟩,?_,?_,⟨_,_,Go.ChangeMaps.heap_setBlock_same hb _,?_,?_⟩⟩,setBlock_turns hb _,by simp [Go.ChangeMaps.setBlock]⟩
  ·intro ty
   simp [Builtin.delete_,run_underlying Tryz.underlying216,MapKept.run_getObj_map hb,lawPl.check w _ hkey,h1,MapKept.run_setObj_map _ hb,Result.andThen,Go.ChangeMaps.setBlock]
  ·rw [hsub,hfil,Go.ChangeMaps.map_eraseIdx,he,Go.ChangeMaps.map_eraseIdx]
  ·exact fun e hm=>h.wf e (List.mem_filter.1 hm).1
  ·exact h.apart.sublist List.filter_sublist
  ·obtain ⟨es2,clock2,hb2,hf1,-⟩:=h.fresh
   obtain ⟨rfl,rfl⟩:es2=es∧clock2=clock:=by rw [hb] at hb2; cases hb2; exact ⟨rfl,rfl⟩
   intro e hm
   rw [hsub] at hm
   exact hf1 e ((List.eraseIdx_sublist _ _).subset hm)
  ·obtain ⟨es2,clock2,hb2,-,hf2⟩:=h.fresh
   obtain ⟨rfl,rfl⟩:es2=es∧clock2=clock:=by rw [hb] at hb2; cases hb2; exact ⟨rfl,rfl⟩
   rw [hsub]
   exact hf2.sublist ((List.eraseIdx_sublist _ _).map _)
theorem WMap.len (h:WMap w M l) (ty:TypeId):(Builtin.len_ #[216] ty #[.map (some M)]).run Tryz.prog w=.ok (.int .i64 (l.length:Int)) w:=by
 obtain ⟨es,clock,hb,he⟩:=h.ex
 have hll:es.size=l.length:=by have:=congrArg List.length he; simpa using this
 simp [Builtin.len_,run_underlying Tryz.underlying216,MapKept.run_getObj_map hb,Result.andThen,goInt,hll]
end
open Go.RowKit
def vecL (a:Nat→Int):List Value:=(List.range 16).map fun i=>.int .i64 (a i)
theorem vecL_length (a:Nat→Int):(vecL a).length=16:=by simp [vecL]
theorem vecL_get (a:Nat→Int) (i:Nat) (h:i<16):(vecL a)[i]?=some (.int .i64 (a i)):=by simp [vecL,h]
theorem vecL_one (a:Nat→Int):∀ v ∈ vecL a,v.oneCell'=true:=by
 intro v hv
 obtain ⟨i,-,rfl⟩:=List.mem_map.1 hv
 rfl
theorem vecL_congr {a b:Nat→Int} (h:∀ i,i<16→a i=b i):vecL a=vecL b:=List.map_congr_left fun i hi=>by rw [h i (by simpa using hi)]
def vecA (a:Nat→Int):Array Value:=(vecL a).toArray
theorem vecA_size (a:Nat→Int):(vecA a).size=16:=by simp [vecA,vecL_length]
theorem vecA_get (a:Nat→Int) (i:Nat) (h:i<16):(vecA a)[i]?=some (.int .i64 (a i)):=by simp [vecA,vecL_get a i h]
theorem vecA_congr {a b:Nat→Int} (h:∀ i,i<16→a i=b i):vecA a=vecA b:=by rw [vecA,vecA,vecL_congr h]
def VAt (w:World) (b:Nat) (a:Nat→Int):Prop:=∃ T,w.heap[b]?=some (.cells (vecA a) T (0,0))
theorem VAt.cell {w:World} {b:Nat} {a:Nat→Int} (h:VAt w b a) (i:Nat) (hi:i<16):w.cell? ⟨b,i,none⟩=some (.int .i64 (a i)):=by
 obtain ⟨T,h⟩:=h
 rw [cell_of_row w b i _ T (0,0) h,vecA_get a i hi]
theorem VAt.lt {w:World} {b:Nat} {a:Nat→Int} (h:VAt w b a):b<w.heap.size:=cell_lt (h.cell 0 (by decide))
theorem VAt.free {w:World} {b:Nat} {a:Nat→Int} (h:VAt w b a) (i:Nat):w.frozen? ⟨b,i,none⟩=false:=by
 obtain ⟨T,h⟩:=h
 exact frozen_of_row w b i _ T h
theorem VAt.below {w w':World} {b:Nat} {a:Nat→Int} (h:VAt w b a) {B:Nat} (hb:Below B w w') (hB:b<B):VAt w' b a:=by
 obtain ⟨T,h⟩:=h
 exact ⟨T,by rw [hb.block b hB]; exact h⟩
theorem VAt.kept {w w':World} {b:Nat} {a:Nat→Int} (h:VAt w b a) (hb:Below w.heap.size w w'):VAt w' b a:=h.below hb h.lt
theorem VAt.new (w:World) (a:Nat→Int) (T:TypeId):VAt (w.alloc (.cells (vecA a) T)) w.heap.size a:=⟨T,heap_alloc_new w _⟩
theorem VAt.set {w:World} {b:Nat} {a:Nat→Int} (h:VAt w b a) (i:Nat) (x:Int):VAt (w.setCell ⟨b,i,none⟩ (.int .i64 x)) b (fun j=>if j=i then x else a j):=by
 obtain ⟨T,h⟩:=h
 refine ⟨T,?_⟩
 rw [heap_setCell_same w b i _ T _ h]
 congr 2
 apply Array.ext_getElem?
 intro j
 by_cases hj:j<16
 ·rw [Array.getElem?_setIfInBounds,vecA_get _ j hj,vecA_get _ j hj,vecA_size]
  by_cases e:i=j
  ·subst e; simp [hj]
  ·rw [if_neg e,if_neg (fun h=>e h.symm)]
 ·rw [Array.getElem?_eq_none (by simp [vecA_size]; omega),Array.getElem?_eq_none (by rw [vecA_size]; omega)]
theorem VAt.congr {w:World} {b:Nat} {a c:Nat→Int} (h:VAt w b a) (e:∀ i,i<16→a i=c i):VAt w b c:=by
 obtain ⟨T,h⟩:=h
 exact ⟨T,by rw [← vecA_congr e]; exact h⟩
section
variable {P:Program} (w:World)
theorem run_part_vec (e:TypeId) (he:P.underlying e=some (.int .i64)) (a:Nat→Int) (i:Nat) (hi:i<16):(part e (vecA a) i).run P w=.ok (.int .i64 (a i)) w:=by
 simp [part,isAgg,run_underlying he,vecA_get a i hi]
theorem run_index_vec (t e:TypeId) (ht:P.underlying t=some (.array 16 e)) (he:P.underlying e=some (.int .i64)) (hsz:∀ w,(sizeOf e).run P w=.ok 1 w) (a:Nat→Int) (i:Nat) (hi:i<16) :
  (Instr.index t (.agg (vecA a)) (.int .i64 (i:Int))).run P w=.ok (.int .i64 (a i)) w:=by
 have h:(0:Int)≤(i:Int)∧(i:Int)<16:=⟨by omega,by omega⟩
 simp [Instr.index,run_underlying ht,asIntOf,h,hsz,run_part_vec w e he a i hi]
 omega
end
open Go.RowKit
def vOk (a:Nat→Int) (k:Nat):Bool:=(List.range k).all fun i=>decide (0≤a i) && decide (a i≤512)
def vRight (a:Nat→Int):Bool:=vOk a 16
theorem vOk_iff {a:Nat→Int} {k:Nat}:vOk a k=true ↔ ∀ i,i<k→0≤a i∧a i≤512:=by simp [vOk]
theorem vRight_iff {a:Nat→Int}:vRight a=true ↔ ∀ i,i<16→0≤a i∧a i≤512:=vOk_iff
theorem vOk_succ {a:Nat→Int} {k:Nat} (h:vOk a k=true) (h0:0≤a k) (h1:a k≤512):vOk a (k+1)=true:=by
 rw [vOk_iff] at h ⊢
 intro i hi
 rcases Nat.lt_or_ge i k with e | e
 ·exact h i e
 ·obtain rfl:i=k:=by omega
  exact ⟨h0,h1⟩
theorem vRight_bad {a:Nat→Int} {k:Nat} (hk:k<16) (h:a k<0∨512<a k):vRight a=false:=by
 rw [Bool.eq_false_iff]
 intro hr
 have:=vRight_iff.1 hr k hk
 omega
def upTo (k:Nat) (f a:Nat→Int):Nat→Int:=fun i=>if i<k then f i else a i
def usedTo (a:Nat→Int):Nat→Nat
 | 0=>0
 | k+1=>if a k=0 then usedTo a k else k+1
def sumTo (a:Nat→Int):Nat→Int
 | 0=>0
 | k+1=>sumTo a k+a k
def totalF (a:Nat→Int):Int:=if vRight a=true then sumTo a 16 else 0
theorem sumTo_bd {a:Nat→Int} (h:vRight a=true) (k:Nat) (hk:k≤16):0≤sumTo a k∧sumTo a k≤512 * k:=by
 induction k with
 | zero=>exact ⟨Int.le_refl _,by simp [sumTo]⟩
 | succ k ih =>
  have:=ih (by omega)
  have:=vRight_iff.1 h k (by omega)
  rw [sumTo]
  omega
structure VT (P:Program) (t:TypeId):Prop where
 und:P.underlying t=some (.array 16 3)
 size:(P.info? t).map (·.size)=some 16
theorem i_int:Tryz.prog.underlying 3=some (.int .i64):=by kernel_rfl
theorem sz_int:∀ w,(sizeOf 3).run Tryz.prog w=.ok 1 w:=fun _=>by kernel_rfl
theorem vtP:VT Tryz.prog 93:=⟨by kernel_rfl,by kernel_rfl⟩
theorem VT.index {t:TypeId} (h:VT Tryz.prog t) (w:World) (a:Nat→Int) (i:Nat) (hi:i<16):(Instr.index t (.agg (vecA a)) (.int .i64 (i:Int))).run Tryz.prog w=.ok (.int .i64 (a i)) w:=run_index_vec w t _ h.und i_int sz_int a i hi
theorem wpList_load_vec {t:TypeId} (V:VT Tryz.prog t) {ops:Array Oper} {rest:List Oper} {o:Oper} {a:Act} {w:World} {Q:Exit→Act→World→Prop} (hgd:o.guard=none) (x:Operand) (ho:o.op=.load t x)
  (b:Nat) (hx:a.eval x=.pointer (some ⟨b,0,none⟩)) (v:Nat→Int) (hv:VAt w b v)
  (h:wpList Tryz.prog ops Q rest (a.put o.dst (.agg (vecA v))) w):wpList Tryz.prog ops Q (o :: rest) a w:=by
 obtain ⟨T,hv⟩:=hv
 exact wpList_load_row hgd t x ho b hx T _ (0,0) _ hv V.und rfl (by rw [vecA_size]; exact V.size) h
theorem run_storeVar_vec {t:TypeId} (V:VT Tryz.prog t) (w:World) (b:Nat) (T:TypeId) (u v:Nat→Int) (hv:w.heap[b]?=some (.cells (vecA u) T (0,0))):(storeVar t ⟨b,0,none⟩ (.agg (vecA v))).run Tryz.prog w=.ok () (w.setRow b (vecA v)):=by
 have:=run_storeCells_from (P:=Tryz.prog) b T (vecA v).toList 0 (vecA u) w hv (by simp [vecA_size]) (fun x hx=>vecL_one v x (by simpa [vecA] using hx))
 have hi:=V.size
 cases hq:(Tryz.prog).info? t with
 | none=>simp [hq] at hi
 | some i =>
  have hs:i.size=(vecA v).size:=by simp [hq] at hi; rw [vecA_size,hi]
  simp only [List.take_zero,List.nil_append,Array.toArray_toList] at this
  simp [storeVar,sizeOf,typeInfo,hq,Value.cells,hs,this]
theorem results_vec {t:TypeId} (V:VT Tryz.prog t) {fn:Func} {p:Tmp} (tmps:Array Value) {w:World} {g:Nat} {v:Nat→Int} (h:fn.results=#[.cell p t]) (hv:VAt w g v) (hp:tmps.getD p undef=.pointer (some ⟨g,0,none⟩)) :
  (results fn tmps).run Tryz.prog w=.ok (.agg (vecA v)) w:=by
 obtain ⟨T,hv⟩:=hv
 exact results_cell_row h tmps w g T _ (0,0) _ hp hv V.und rfl (by rw [vecA_size]; exact V.size)
theorem wpList_store_vec {t:TypeId} (V:VT Tryz.prog t) {ops:Array Oper} {rest:List Oper} {o:Oper} {a:Act} {w:World} {Q:Exit→Act→World→Prop} (hgd:o.guard=none) (x y:Operand) (ho:o.op=.store t x y)
  (b:Nat) (hx:a.eval x=.pointer (some ⟨b,0,none⟩)) (u v:Nat→Int) (hv:VAt w b u) (hy:a.eval y=.agg (vecA v))
  (h:∀ w':World,VAt w' b v→(∀ k,k≠b→w'.heap[k]?=w.heap[k]?)→w'.heap.size=w.heap.size→(∀ B w0,Below B w0 w→B≤b→Below B w0 w')→wpList Tryz.prog ops Q rest (a.put o.dst undef) w'):wpList Tryz.prog ops Q (o :: rest) a w:=by
 obtain ⟨T,hv⟩:=hv
 refine wpList_plain hgd fun K hK=>?_
 have hr:=run_storeVar_vec V w b T u v hv
 have hk:K (a.put o.dst undef) (w.setRow b (vecA v)):=by
  refine hK _ _ (h _ ⟨T,setRow_heap w b _ _ T _ hv⟩ (fun k hk=>setRow_other w b k _ hk) (by simp) ?_)
  intro B w0 hb hB
  exact hb.trans ⟨rfl,rfl,rfl,by simp,fun k hk=>setRow_other w b k _ (by omega)⟩
 unfold Oper.wp execOp
 simp only [ho,hx,hy,Instr.storeAt,Instr.sureAddr,Sem.run_bind,Sem.run_pure,Result.andThen_ok,hr]
 exact hk
open Go.RowKit
structure Lg where
 row:Nat→List Bat
 wait:List Bat
def Lg.zero:Lg:=⟨fun _=>[],[]⟩
def vecL9 (L:Lg):Nat→Int:=fun r=>((L.row r).length:Int)
def totL (L:Lg):Int:=totalF (vecL9 L)
def lastR (L:Lg) (r:Nat):Qm.St:=match (L.row r).getLast? with | none=>(0,0) | some x=>endT x
def fitsL (L:Lg) (x:Bat):Bool:=decide ((lastR L x.r.toNat).1<x.t)
def enterL (L:Lg) (x:Bat):Lg:={ L with row:=fun k=>if k=x.r.toNat then L.row k ++ [x] else L.row k }
def dropL (L:Lg) (r s:Int):Lg:={ L with wait:=L.wait.filter fun a=>!atPl r s a }
def nextS (L:Lg) (r:Nat):Int:=((L.row r).length:Int)+1
def followL:Nat→Lg→Nat→Lg
 | 0,L,_=>L
 |n+1,L,r=>if 512≤totL L then L else
  match L.wait.find? (atPl (r:Int) (nextS L r)) with
  | none=>L
  | some x=>if fitsL (dropL L (r:Int) (nextS L r)) x=true then followL n (enterL (dropL L (r:Int) (nextS L r)) x) r else dropL L (r:Int) (nextS L r)
def addL (L:Lg) (x:Bat):Lg × List Bat × Int :=
 if rightT x=false then (L,[],1)
 else if (L.wait.any (atPl x.r x.s))=true∨x.s<nextS L x.r.toNat then (L,[],4)
 else if x.s≠nextS L x.r.toNat then (if 64≤L.wait.length then (L,[],7) else ({ L with wait:=L.wait ++ [x] },[],33))
 else if 512≤totL L then (L,[],7)
 else if fitsL L x=false then (L,[],21)
 else (followL (L.wait.length+1) (enterL L x) x.r.toNat,((followL (L.wait.length+1) (enterL L x) x.r.toNat).row x.r.toNat).drop (x.s.toNat - 1),0)
structure OkB (x:Bat):Prop where
 right:rightT x=true
 szs:Szs x.ops
 cp:CpSz x
structure LgOk (L:Lg):Prop where
 right:∀ r,r<16→∀ x,x ∈ L.row r→OkB x
 wright:∀ x,x ∈ L.wait→OkB x
 tot:sumTo (vecL9 L) 16≤512
 wlen:L.wait.length≤64
theorem sumTo_mono {a:Nat→Int} (h:∀ i,0≤a i):∀ {j k:Nat},j≤k→sumTo a j≤sumTo a k:=by
 intro j k hjk
 induction hjk with
 | refl=>exact Int.le_refl _
 | @step m _ ih=>have h1:=h m; simp only [sumTo]; omega
theorem sumTo_ge {a:Nat→Int} (h:∀ i,0≤a i) {j k:Nat} (hj:j<k):a j≤sumTo a k:=by
 have h1:=sumTo_mono h (show j+1≤k from hj)
 have h2:=sumTo_mono h (Nat.zero_le j)
 simp only [sumTo] at h1 h2
 omega
theorem LgOk.len {L:Lg} (h:LgOk L) {r:Nat} (hr:r<16):(L.row r).length≤512:=by
 have:=sumTo_ge (a:=vecL9 L) (fun i=>by simp [vecL9]) hr
 have h2:=h.tot
 simp only [vecL9] at this
 omega
theorem LgOk.vr {L:Lg} (h:LgOk L):vRight (vecL9 L)=true:=vRight_iff.2 fun i hi=>⟨by simp [vecL9],by have:=h.len hi; simp only [vecL9]; omega⟩
theorem LgOk.totL {L:Lg} (h:LgOk L):totL L=sumTo (vecL9 L) 16:=by unfold Go.Proofs.YthfhefdfehlbkaaGreat.totL totalF; rw [if_pos h.vr]
theorem LgOk.zero:LgOk Lg.zero:=⟨fun _ _ _ h=>(by cases h),fun _ h=>(by cases h),by decide,by decide⟩
theorem sumTo_enter (a:Nat→Int) (j:Nat):∀ k,sumTo (fun i=>if i=j then a i+1 else a i) k=sumTo a k+(if j<k then 1 else 0)
 | 0=>by simp [sumTo]
 | k+1=>by
  simp only [sumTo,sumTo_enter a j k]
  by_cases h1:k=j
  ·subst h1; simp; omega
  ·by_cases h2:j<k
   ·simp [h1,h2,show j<k+1 from by omega]; omega
   ·simp [h1,h2,show ¬ j<k+1 from by omega]
theorem vecL9_enter (L:Lg) (x:Bat):vecL9 (enterL L x)=fun i=>if i=x.r.toNat then vecL9 L i+1 else vecL9 L i:=by
 funext i
 unfold vecL9 enterL
 dsimp only
 split <;> simp
theorem right_r {x:Bat} (h:rightT x=true):x.r.toNat<16∧((x.r.toNat:Nat):Int)=x.r:=by
 obtain ⟨h1,-⟩:=rightT_iff.1 h
 omega
theorem LgOk.enter {L:Lg} (h:LgOk L) {x:Bat} (hx:OkB x) (ht:¬ 512≤Go.Proofs.YthfhefdfehlbkaaGreat.totL L):LgOk (enterL L x):=by
 refine ⟨fun r hr y hy=>?_,h.wright,?_,h.wlen⟩
 ·unfold enterL at hy
  dsimp only at hy
  split at hy
  ·rcases List.mem_append.1 hy with hy | hy
   ·exact h.right r hr y hy
   ·obtain rfl:y=x:=by simpa using hy
    exact hx
  ·exact h.right r hr y hy
 ·rw [vecL9_enter,sumTo_enter]
  rw [h.totL] at ht
  split <;> omega
theorem LgOk.drop {L:Lg} (h:LgOk L) (r s:Int):LgOk (dropL L r s) :=
 ⟨h.right,fun x hx=>h.wright x (List.mem_filter.1 hx).1,h.tot,Nat.le_trans (List.length_filter_le _ _) h.wlen⟩
open Go.RowKit
open Go.RowKit
theorem vret_bool {a b:Bool} (h:a=b):Ending.returned (.bool a)=.returned (.bool b):=by rw [h]
theorem vecright_any (a:Nat→Int) (w:World):Calls Tryz.prog 141 #[.agg (vecA a)] w fun e w'=>e=.returned (.bool (vRight a))∧Below w.heap.size w w':=by
 have hv:=VAt.new w a 93
 have HB:=Hi ((Below.refl w.heap.size w).alloc (Nat.le_refl _) (.cells (vecA a) 93))
 go_enter Tryz.func141,Tryz.ntmps141
 go_wp2_with (refine wpList_load_vec vtP rfl _ rfl _ rfl _ (by assumption) ?_)
 clear hv
 go_loop [6] (fun i=>∃ k:Nat,k≤16∧i=.int .i64 (k:Int)∧vOk a k=true) (fun i=>16 - (intOf i).toNat)
 case atStart=>exact ⟨0,by omega,rfl,rfl⟩
 case round =>
  obtain ⟨k,hk,rfl,ho⟩:=hrel
  have HO:=Hi ho
  clear ho
  by_cases hlt:k<16
  ·have ix:=fun (W:World)=>vtP.index W a k hlt
   by_cases h0:a k<0
   ·have HR:=Hi (vRight_bad hlt (Or.inl h0))
    go_wp2
    go_ret
    exact ⟨vret_bool HR.out.symm,HB.out⟩
   ·by_cases h1:512<a k
    ·have HR:=Hi (vRight_bad hlt (Or.inr h1))
     go_wp2
     go_ret
     exact ⟨vret_bool HR.out.symm,HB.out⟩
    ·have HN:=Hi (vOk_succ HO.out (by omega) (by omega))
     go_wp2
     go_round
     case rel=>exact ⟨k+1,by omega,by go_num,HN.out⟩
     case measure=>simp [intOf]; omega
  ·obtain rfl:k=16:=by omega
   go_wp2
   go_ret
   exact ⟨vret_bool HO.out.symm,HB.out⟩
open Go.RowKit
theorem upTo_zero (f a:Nat→Int):upTo 0 f a=a:=funext fun i=>by simp [upTo]
theorem upTo_step (f a:Nat→Int) (k:Nat):(fun j=>if j=k then f k else upTo k f a j)=upTo (k+1) f a:=funext fun j=>by
 unfold upTo
 by_cases e:j=k
 ·subst e; simp
 ·by_cases e2:j<k
  ·simp [e,e2]; omega
  ·have:¬ j<k+1:=by omega
   simp [e,e2,this]
theorem upTo_all (f a:Nat→Int):∀ i,i<16→upTo 16 f a i=f i:=fun i hi=>by simp [upTo,hi]
open Go.RowKit
open Go.RowKit
theorem total_any (a:Nat→Int) (w:World):Calls Tryz.prog 266 #[.agg (vecA a)] w fun e w'=>e=.returned (.int .i64 (totalF a))∧Below w.heap.size w w':=by
 have V:=VAt.new w a 93
 have HB0:=Hi ((Below.refl w.heap.size w).alloc (Nat.le_refl _) (.cells (vecA a) 93))
 have HC:=Hi (fun W=>vecright_any a W)
 by_cases hr:vRight a=true
 ·have HR:=Hi hr
  have HT:=Hi (show totalF a=sumTo a 16 from by unfold totalF; rw [if_pos hr])
  rw [hr] at HC
  clear hr
  go_enter Tryz.func266,Tryz.ntmps266
  go_wp2_with (refine wpList_load_vec vtP rfl _ rfl _ rfl _ (by assumption) ?_)
  refine (HC.out _).mono ?_
  rintro e w1 ⟨rfl,hb1⟩
  have HB1:=Hi (HB0.out.trans (hb1.mono HB0.out.size))
  have V':=V.kept hb1
  clear hb1 V
  go_wp2_with (refine wpList_load_vec vtP rfl _ rfl _ rfl _ (by assumption) ?_)
  clear V'
  go_loop [3,10] (fun s i=>∃ k:Nat,k≤16∧i=.int .i64 (k:Int)∧s=.int .i64 (sumTo a k)) (fun _ i=>16 - (intOf i).toNat)
  case atStart=>exact ⟨0,by omega,rfl,rfl⟩
  case round =>
   obtain ⟨k,hk,rfl,rfl⟩:=hrel
   by_cases hlt:k<16
   ·have ix:=fun (W:World)=>vtP.index W a k hlt
    obtain ⟨h1,h2⟩:=sumTo_bd HR.out k hk
    obtain ⟨h3,h4⟩:=vRight_iff.1 HR.out k hlt
    go_wp2
    go_round
    case rel=>exact ⟨k+1,by omega,by go_num,rfl⟩
    case measure=>simp [intOf]; omega
   ·obtain rfl:k=16:=by omega
    go_wp2
    go_ret
    exact ⟨ret_int HT.out.symm,HB1.out⟩
 ·have HT:=Hi (show totalF a=0 from by unfold totalF; rw [if_neg hr])
  rw [show vRight a=false by simpa using hr] at HC
  clear hr
  go_enter Tryz.func266,Tryz.ntmps266
  go_wp2_with (refine wpList_load_vec vtP rfl _ rfl _ rfl _ (by assumption) ?_)
  refine (HC.out _).mono ?_
  rintro e w1 ⟨rfl,hb1⟩
  have HB1:=Hi (HB0.out.trans (hb1.mono HB0.out.size))
  clear hb1 V
  go_wp2
  go_ret
  exact ⟨ret_int HT.out.symm,HB1.out⟩
end Go.Proofs.YthfhefdfehlbkaaGreat

/-
  The program's up, Above and Within.
  No conditions but sizes.
-/
import Derived.Test.YthfhefdfehlbkaaGreatSh
import Derived.Test.YthfhefdfehlbkaaGreatK15
import Derived.Shelf.Abstract
set_option maxRecDepth 100000
set_option maxHeartbeats 8000000
namespace Go.Proofs.YthfhefdfehlbkaaGreat
open Go.RowKit
open Tm (Sp Tr has put cut kids)
attribute [local go_sem] Oper.semAt_some
theorem exec_eql_st {c:Act} {o:Oper} {x y:Operand} {ty:TypeId} (ho:o.op=.binOp .eql 35 x y ty) {w:World} (p q:Qm.St) (hx:c.eval x=snV p) (hy:c.eval y=snV q) :
  (execOp c.eval o).run Tryz.prog w=.ok (.value (.bool (decide (p=q)))) w:=by
 obtain ⟨a,b⟩:=p
 obtain ⟨d,e⟩:=q
 unfold execOp
 simp only [ho,hx,hy]
 go_simp
 by_cases h1:a=d <;> by_cases h2:b=e <;> simp [h1,h2]
theorem wpList_value {P:Program} {ops:Array Oper} {rest:List Oper} {o:Oper} {a:Act} {w w':World} {Q:Exit→Act→World→Prop} {v:Value} (hw:Region.wanted o (yielded ops a.tmps)=true) (hr:(execOp a.eval o).run P w=.ok (.value v) w') (h:wpList P ops Q rest (a.put o.dst v) w'):wpList P ops Q (o :: rest) a w:=by
 rw [wpList,if_pos hw]
 refine Or.inl ?_
 unfold Oper.wp
 rw [hr]
 exact h
def Upped (P:Nat) (n:Qm.St) (w:World) (e:Ending) (w':World):Prop :=
 e=.returned (.func (.func 312) #[] #[.pointer (some ⟨w.heap.size,0,none⟩),.pointer (some ⟨w.heap.size+1,0,none⟩)]) ∧
 AgAt w' w.heap.size #[.pointer (some ⟨P,0,none⟩)]∧AgAt w' (w.heap.size+1) #[.int .i64 n.1,.int .i64 n.2]∧Below w.heap.size w w'
theorem up_any (P:Nat) (n:Qm.St) (w:World):Calls Tryz.prog 263 #[.pointer (some ⟨P,0,none⟩),snV n] w (Upped P n w):=by
 have h1:∀ (w:World) (o:Obj),Below w.heap.size w (w.alloc o):=fun w o=>(Below.refl _ _).alloc (Nat.le_refl _) _
 have HE:=Hi (show Upped P n w (.returned (.func (.func 312) #[] #[.pointer (some ⟨w.heap.size,0,none⟩),.pointer (some ⟨w.heap.size+1,0,none⟩)])) ((w.alloc (.cells #[.pointer (some ⟨P,0,none⟩)] 143)).alloc (.cells #[.int .i64 n.1,.int .i64 n.2] 35)) from
  ⟨rfl,(AgAt.new w _ _).kept (h1 _ _),by
   have:=AgAt.new (w.alloc (.cells #[.pointer (some ⟨P,0,none⟩)] 143)) #[.int .i64 n.1,.int .i64 n.2] 35
   rw [show (w.alloc (.cells #[.pointer (some ⟨P,0,none⟩)] 143)).heap.size=w.heap.size+1 from by simp] at this
   exact this,(h1 _ _).trans ((h1 _ _).mono (by simp))⟩)
 clear h1
 go_enter Tryz.func263,Tryz.ntmps263
 go_wp2
 go_ret
 exact HE.out
theorem above_any {P M1 M2:Nat} {T:Tr} {C:List Kid} {F:Nat→Prop} (n:Qm.St) (w:World) (h:Lay w P M1 M2 T C F) (hn:StWf n) (ok:Tm.Ok T) (hpar:∀ e ∈ T,StWf e.2.1) (hT:T.length≤1000000) :
  Calls Tryz.prog 191 #[.pointer (some ⟨P,0,none⟩),snV n] w (Collected (fun xs=>xs=Tm.chain T n) w):=by
 obtain ⟨i0,hi0,hz00,hz1,hz22⟩:=info_parts oinfo_st
 have h1:∀ (w:World) (o:Obj),Below w.heap.size w (w.alloc o):=fun w o=>(Below.refl _ _).alloc (Nat.le_refl _) _
 have hb0:Below w.heap.size w ((w.alloc (.cells #[.int .i64 n.1,.int .i64 n.2] 35)).alloc (.cells #[.slice none 0 0] 36)):=(h1 _ _).trans ((h1 _ _).mono (by simp))
 have HR:=Hi (show AgAt ((w.alloc (.cells #[.int .i64 n.1,.int .i64 n.2] 35)).alloc (.cells #[.slice none 0 0] 36)) (w.heap.size+1) #[.slice none 0 0] from by
  have:=AgAt.new (w.alloc (.cells #[.int .i64 n.1,.int .i64 n.2] 35)) #[.slice none 0 0] 36
  rw [show (w.alloc (.cells #[.int .i64 n.1,.int .i64 n.2] 35)).heap.size=w.heap.size+1 from by simp] at this
  exact this)
 have HN:=Hi ((AgAt.new w #[.int .i64 n.1,.int .i64 n.2] 35).kept (h1 _ (.cells #[.slice none 0 0] 36)))
 have HL:=Hi (h.kept hb0)
 have HPL:=Hi (show P<w.heap.size∧M1<w.heap.size from ⟨h.lt _ h.fP,h.lt _ h.f1⟩)
 have HZ:=Hi (show ((w.alloc (.cells #[.int .i64 n.1,.int .i64 n.2] 35)).alloc (.cells #[.slice none 0 0] 36)).heap.size=w.heap.size+1+1 from by simp)
 have hlen:∀ pre,pre <+: Tm.chain T n→pre.length≤1000000:=fun pre hp=>Nat.le_trans hp.length_le (Nat.le_trans (Tm.up_len (ok.chain n)) hT)
 clear h h1 hT
 refine callsIn_wide.1 (callsIn_of_wp_marks (n:=0) Tryz.func191 rfl trivial ?_ rfl)
 simp only [Tryz.ntmps191,List.size_toArray,List.length_cons,List.length_nil,Nat.reduceAdd,Nat.reduceSub,Array.replicate_succ,Array.replicate_zero,List.push_toArray,List.append_toArray,List.nil_append,List.cons_append]
 refine wpIn_wide.2 ?_
 go_wp2_with fail
 refine (ours_any _ HL.out).mono ?_
 rintro e w1 ⟨rfl,rfl⟩
 generalize (w.alloc (.cells #[.int .i64 n.1,.int .i64 n.2] 35)).alloc (.cells #[.slice none 0 0] 36)=w1 at *
 go_wp2_with (refine wpList_load_ag stT (by kernel_rfl) _ rfl _ rfl (A:=#[.int .i64 n.1,.int .i64 n.2]) rfl HN.out ?_)
 refine (up_any P n _).mono ?_
 rintro e w2 ⟨rfl,hu1,hu2,hb2⟩
 have hUP:UpAt w2 w1.heap.size (w1.heap.size+1) P M1 M2 n T:=⟨hu1,hu2,(HL.out.kept hb2).at_,(HL.out.kept hb2).spots⟩
 have hR2:=AgAt.kept HR.out hb2
 have hb3:Below w.heap.size w w2:=hb0.trans (hb2.mono hb0.size)
 have hz2:w.heap.size+1+1≤w2.heap.size:=by have:=hb2.size; have:=HZ.out; omega
 have hcol:Col (w.heap.size+1) [] (fun k=>k=w.heap.size+1) w2:=⟨_,hR2.cell 0,hR2.free 0,World.ownsRow_nil _ _ _ _,fun k=>⟨Or.inl,fun h=>h.elim id fun h=>by cases h⟩⟩
 have hseq:=up1_seq ok hn hpar (F0:=fun k=>k=w.heap.size+1) w2 hUP (by have:=HZ.out; omega) (by have:=HZ.out; omega) (by have:=HPL.out; omega) (by have:=HPL.out; omega)
 clear hu1 hu2 hb2 HL HN HR hUP hR2
 go_wp2_with fail
 refine (wpIn_wide (n:=0)).1 ?_
 refine wp_rangeFunc_fp (gf:=312) (lb:=#[.pointer (some ⟨w1.heap.size,0,none⟩),.pointer (some ⟨w1.heap.size+1,0,none⟩)]) rfl (enters_of Tryz.func312 (by kernel_rfl) rfl) hseq (Col (w.heap.size+1)) (fun _ _ _ _=>False) Col.stable (fun _ _ _ _ _ h _=>h) Col.lt (F:=fun k=>k=w.heap.size+1) (fun k hk=>hk) hcol ?round ?done ?stop
 case round =>
  rintro l pre x Fp W ⟨v,hc,hf,ho,hfp⟩ hsp hnl hll
  have hz0:=hlen _ hsp
  have hBW:(w.heap.size+1)<W.heap.size:=cell_lt hc
  have hlB:l≠(w.heap.size+1):=fun h=>hnl ((hfp l).2 (Or.inl h))
  gi_wp2_with (refine wpListIn_store_newag stT rfl _ _ rfl rfl _ (A:=#[.int .i64 x.1,.int .i64 x.2]) rfl rfl rfl (stA_one _ _) ?_; intro w1 hv1 hb1)
  refine ⟨Turns.of_below hb1,?_⟩
  intro W2 ht2 hz2
  have h01:Turns (fun k=>k=l) W W2:=(Turns.of_below hb1).trans (ht2.mono fun k _ hk=>Or.inl hk)
  have hc2:W2.cell? ⟨(w.heap.size+1),0,none⟩=some v:=h01.cell hc fun h=>hlB h.symm
  have hf2:W2.frozen? ⟨(w.heap.size+1),0,none⟩=false:=(h01.frozen (p:=⟨(w.heap.size+1),0,none⟩) hBW fun h=>hlB h.symm).trans hf
  have ho2:=h01.own ho fun g hg h=>hnl ((hfp l).2 (Or.inr (by rw [← h]; exact hg)))
  have hx2:AgAt W2 W.heap.size #[.int .i64 x.1,.int .i64 x.2]:=AgAt.block hv1 (ht2.block _ (AgAt.lt hv1) (by omega))
  have hWW:W.heap.size<W2.heap.size:=AgAt.lt hx2
  clear hz2
  have hal:Turns (fun _=>False) W2 (W2.alloc (.cells #[.int .i64 x.1,.int .i64 x.2] 35)):=Turns.of_below ((Below.refl _ W2).alloc (Nat.le_refl _) _)
  have hne:v.ownBlock≠some (w.heap.size+1):=fun h=>by have:=(World.ownsRow.lt ho (w.heap.size+1) h).1; omega
  gi_wp2_with (first
   | (refine wpListIn_load_ag stT rfl _ rfl _ rfl (A:=#[.int .i64 x.1,.int .i64 x.2]) rfl hx2 ?_)
   | (refine wpListIn_build_st _ rfl rfl x.1 x.2 rfl ?_)
   | (
     refine wpListIn_append_k rfl _ _ 36 rfl (w.heap.size+1+1) 35 i0 _ 2 16 Tryz.underlying36 hi0 hz00 hz1 (by decide) hz22 (by decide) rfl v pre.length (stCells pre) rfl (World.ownsRow.alloc ho2 _) _ 1 1 [.int .i64 x.1,.int .i64 x.2] rfl rfl (Rd_new2 W2 x.1 x.2) (fun h=>by cases h) (st2_one _ _) (by simp only [List.length_append,List.length_cons,List.length_nil] at hz0; omega) (by simp; omega) ?_
     intro p' c' w4 ho4 hg4 hw4
     have hcB:w4.cell? ⟨(w.heap.size+1),0,none⟩=some v:=((Turns.of_grown hg4).cell (p:=⟨(w.heap.size+1),0,none⟩) (hal.cell hc2 fun h=>h) fun h=>hne h)
     have hfB:w4.frozen? ⟨(w.heap.size+1),0,none⟩=false:=((Turns.of_grown hg4).frozen (p:=⟨(w.heap.size+1),0,none⟩) (by simp; omega) fun h=>hne h).trans ((hal.frozen (p:=⟨(w.heap.size+1),0,none⟩) (cell_lt hc2) fun h=>h).trans hf2)))
  refine ⟨fun k=>k=(w.heap.size+1)∨(Value.slice p' (pre.length+1) c').ownBlock=some k,?_,?_,_,?_,?_,?_,fun _=>Iff.rfl⟩
  ·refine (Turns.of_below ((Below.refl _ W2).alloc (Nat.le_refl _) _)).trans (((Turns.of_grown hg4).mono fun k _ hk=>Or.inl (Or.inl ((hfp k).2 (Or.inr hk)))).trans ((set_turns (w.heap.size+1) w4 0 _).mono fun k _ hk=>Or.inl (Or.inl (Or.inl ((hfp k).2 (Or.inl hk))))))
  ·rintro k (hk | hk)
   ·exact Or.inl ((hfp k).2 (Or.inl hk))
   ·rcases hw4 k hk with h | h
    ·exact Or.inl ((hfp k).2 (Or.inr h))
    ·exact Or.inr (by simp at h; omega)
  ·exact World.cell?_setCell_same' _ _ _ (by rw [hcB]; rfl)
  ·rw [World.frozen?_setCell]; exact hfB
  ·have:(pre ++ [x]).length=pre.length+1:=by simp
   rw [this,stCells_append]
   refine (set_turns (w.heap.size+1) w4 0 _).own ho4 fun g hg h=>?_
   subst h
   rcases hw4 _ hg with h | h
   ·exact hne h
   ·simp at h; omega
 case done =>
  rintro D xs Fp W rfl ⟨v,hc,hf,ho,hfp⟩ ht hg hD hDl hDn
  obtain ⟨p',c',rfl,-⟩:=own_rd ho
  go_wp2
  have hne:(Value.slice p' (Tm.chain T n).length c').ownBlock≠some (w.heap.size+1):=fun h=>by have:=(World.ownsRow.lt ho _ h).1; omega
  have hDB:D≠w.heap.size+1:=fun h=>hDn ((hfp D).2 (Or.inl h))
  have hst:=set_turns (w.heap.size+1) W 0 (Value.slice p' (Tm.chain T n).length c')
  have hD':(W.setCell ⟨w.heap.size+1,0,none⟩ (Value.slice p' (Tm.chain T n).length c')).heap[D]?=some (.deferred (some [])):=(hst.block D (Array.getElem?_eq_some_iff.1 hD).1 hDB).trans hD
  refine ⟨by simp,.inl ⟨_,_,rfl,run_takeDeferred hD',?_⟩⟩
  have hpt:=putObj_turns (W.setCell ⟨w.heap.size+1,0,none⟩ (Value.slice p' (Tm.chain T n).length c')) D (.deferred none)
  have hc5:=hpt.cell (p:=⟨w.heap.size+1,0,none⟩) (World.cell?_setCell_same' W ⟨w.heap.size+1,0,none⟩ (Value.slice p' (Tm.chain T n).length c') (by rw [hc]; rfl)) (fun h=>hDB h.symm)
  refine ⟨Value.slice p' (Tm.chain T n).length c',?_,Value.slice p' (Tm.chain T n).length c',Tm.chain T n,rfl,rfl,?_,?_⟩
  ·simp [results,Tryz.f191,go_sem,hc5]
  ·refine ownsRow_base (hpt.own (hst.own ho fun g hg h=>hne (by rw [← h]; exact hg)) fun g hg h=>hDn ((hfp D).2 (Or.inr (by rw [← h]; exact hg)))) (by omega)
  ·exact (hb3.trans (ht.below (B:=w.heap.size) (fun k _ hk=>by omega) hb3.size)).trans ((hst.below (B:=w.heap.size) (fun k _ hk=>by omega) (Nat.le_trans hb3.size ht.size)).trans (hpt.below (B:=w.heap.size) (fun k _ hk=>by omega) (by simp; exact Nat.le_trans hb3.size ht.size)))
 case stop =>
  rintro D c pre Fp W _ h
  exact h.elim
def Wit (B0 B2:Nat) (p:Qm.St) (pre:List Qm.St) (Fp:Nat→Prop) (W:World):Prop :=
 p ∉ pre∧AgAt W B0 #[.int .i64 p.1,.int .i64 p.2]∧AgAt W B2 #[.bool false]∧∀ k,Fp k↔k=B0∨k=B2
def WitX (B0 B2:Nat) (p:Qm.St) (c:Code) (pre:List Qm.St) (Fp:Nat→Prop) (W:World):Prop :=
 c=.ret∧p ∈ pre∧AgAt W B2 #[.bool true]∧∀ k,Fp k↔k=B0∨k=B2
theorem Wit.stable {B0 B2:Nat} {p:Qm.St} (pre:List Qm.St) (Fp:Nat→Prop) (W W':World) (h:Wit B0 B2 p pre Fp W) (ht:Turns (fun k=>¬ Fp k) W W'):Wit B0 B2 p pre Fp W' :=
 ⟨h.1,h.2.1.block (ht.block _ (AgAt.lt h.2.1) fun hh=>hh ((h.2.2.2 _).2 (Or.inl rfl))),h.2.2.1.block (ht.block _ (AgAt.lt h.2.2.1) fun hh=>hh ((h.2.2.2 _).2 (Or.inr rfl))),h.2.2.2⟩
theorem WitX.stable {B0 B2:Nat} {p:Qm.St} (c:Code) (pre:List Qm.St) (Fp:Nat→Prop) (W W':World) (h:WitX B0 B2 p c pre Fp W) (ht:Turns (fun k=>¬ Fp k) W W'):WitX B0 B2 p c pre Fp W' :=
 ⟨h.1,h.2.1,h.2.2.1.block (ht.block _ (AgAt.lt h.2.2.1) fun hh=>hh ((h.2.2.2 _).2 (Or.inr rfl))),h.2.2.2⟩
theorem Wit.lt {B0 B2:Nat} {p:Qm.St} (pre:List Qm.St) (Fp:Nat→Prop) (W:World) (h:Wit B0 B2 p pre Fp W):∀ k,Fp k→k<W.heap.size:=fun k hk=>by
 rcases (h.2.2.2 k).1 hk with e | e
 ·rw [e]; exact AgAt.lt h.2.1
 ·rw [e]; exact AgAt.lt h.2.2.1
theorem within_any {P M1 M2:Nat} {T:Tr} {C:List Kid} {F:Nat→Prop} (p n:Qm.St) (w:World) (h:Lay w P M1 M2 T C F) (hn:StWf n) (ok:Tm.Ok T) (hpar:∀ e ∈ T,StWf e.2.1) :
  Calls Tryz.prog 323 #[.pointer (some ⟨P,0,none⟩),snV p,snV n] w fun e w'=>e=.returned (.bool (Tm.within T p n))∧Below w.heap.size w w':=by
 have h1:∀ (w:World) (o:Obj),Below w.heap.size w (w.alloc o):=fun w o=>(Below.refl _ _).alloc (Nat.le_refl _) _
 obtain ⟨W1,hW1⟩:∃ W,W=((w.alloc (.cells #[.int .i64 p.1,.int .i64 p.2] 35)).alloc (.cells #[.int .i64 n.1,.int .i64 n.2] 35)).alloc (.cells #[.bool false] 4):=⟨_,rfl⟩
 have hz:∀ (w:World) (o:Obj),(w.alloc o).heap.size=w.heap.size+1:=fun w o=>by simp
 have HB:=Hi (show Below w.heap.size w W1 from by rw [hW1]; exact (h1 _ _).trans (((h1 _ _).mono (by simp)).trans ((h1 _ _).mono (by simp; omega))))
 have HR:=Hi (show AgAt W1 (w.heap.size+1+1) #[.bool false] from by
  have:=AgAt.new ((w.alloc (.cells #[.int .i64 p.1,.int .i64 p.2] 35)).alloc (.cells #[.int .i64 n.1,.int .i64 n.2] 35)) #[.bool false] 4
  rw [hz,hz,← hW1] at this
  exact this)
 have HN:=Hi (show AgAt W1 (w.heap.size+1) #[.int .i64 n.1,.int .i64 n.2] from by
  have:=(AgAt.new (w.alloc (.cells #[.int .i64 p.1,.int .i64 p.2] 35)) #[.int .i64 n.1,.int .i64 n.2] 35).kept (h1 _ (.cells #[.bool false] 4))
  rw [hz,← hW1] at this
  exact this)
 have HP:=Hi (show AgAt W1 w.heap.size #[.int .i64 p.1,.int .i64 p.2] from by
  have:=((AgAt.new w #[.int .i64 p.1,.int .i64 p.2] 35).kept (h1 _ (.cells #[.int .i64 n.1,.int .i64 n.2] 35))).kept (h1 _ (.cells #[.bool false] 4))
  rw [← hW1] at this
  exact this)
 have HL:=Hi (h.kept HB.out)
 have HPL:=Hi (show P<w.heap.size∧M1<w.heap.size from ⟨h.lt _ h.fP,h.lt _ h.f1⟩)
 have HZ:=Hi (show W1.heap.size=w.heap.size+1+1+1 from by rw [hW1]; simp)
 have HWN:=Hi hn
 have HWE:=Hi (show Tm.within T p n=if p=n then (Tm.look T n).isSome else (Tm.chain T n).contains p from rfl)
 rw [HWE.out]
 clear h h1 hz HWE
 refine callsIn_wide.1 (callsIn_of_wp_marks (n:=0) Tryz.func323 rfl trivial ?_ rfl)
 simp only [Tryz.ntmps323,List.size_toArray,List.length_cons,List.length_nil,Nat.reduceAdd,Nat.reduceSub,Array.replicate_succ,Array.replicate_zero,List.push_toArray,List.append_toArray,List.nil_append,List.cons_append]
 refine wpIn_wide.2 ?_
 by_cases hpn:p=n
 ·rw [if_pos hpn]
  obtain ⟨ib,hib⟩:∃ b,b=(Tm.look T n).isSome:=⟨_,rfl⟩
  obtain ⟨va,hva⟩:∃ s,s=(Tm.look T n).getD zS:=⟨_,rfl⟩
  have HIB:=Hi hib
  have HVA:=Hi hva
  have HEQ:=Hi (show decide (p=n)=true from decide_eq_true hpn)
  rw [← hib]
  clear hib hva ok hpar hn hpn
  go_wp2_with fail
  rw [← hW1]
  clear hW1
  refine (ours_any _ HL.out).mono ?_
  rintro e w1 ⟨rfl,rfl⟩
  go_upto_region 4 with (first | (refine wpList_load_ag stT (by kernel_rfl) _ rfl _ rfl (A:=#[.int .i64 p.1,.int .i64 p.2]) rfl HP.out ?_) | (refine wpList_load_ag stT (by kernel_rfl) _ rfl _ rfl (A:=#[.int .i64 n.1,.int .i64 n.2]) rfl HN.out ?_) | (refine wpList_value (by kernel_rfl) (exec_eql_st rfl p n rfl rfl) ?_; rw [HEQ.out]))
  have hbd:=Below.drew (Below.refl W1.heap.size W1)
  replace HL:=Hi (HL.out.kept hbd)
  replace HN:=Hi (AgAt.kept HN.out hbd)
  replace HR:=Hi (AgAt.kept HR.out hbd)
  replace HB:=Hi (HB.out.trans (hbd.mono HB.out.size))
  refine wp_region_noPanic ?_
  refine wp_region_held_drew (S:=fun W=>Below W1.drew.heap.size W1.drew W) (by kernel_rfl) (Below.refl _ _) (fun hS=>?_)
  clear hbd HP HZ
  generalize W1.drew=wd at *
  refine tX 0 rfl hS ?_
  refine tX 1 rfl hS ?_
  refine tX 2 rfl hS ?_
  refine tK 3 (v:=?_) rfl ?_ hS ?_
  rotate_left
  ·intro W hSW
   have y0:=(HL.out.kept hSW).cell0
   go_simp
   all_goals with_reducible rfl
  go_simp
  refine tK 4 (v:=snV n) rfl (fun W hSW=>exec_load_ag stT rfl rfl rfl (AgAt.kept HN.out hSW)) hS ?_
  go_simp
  refine tK 5 (v:=.tuple #[.agg (spA va),.bool ib]) rfl (fun W hSW=>exec_lookup rfl rfl rfl (by rw [HIB.out,HVA.out]; exact (HL.out.kept hSW).look1 _ HWN.out)) hS ?_
  refine tX 6 rfl hS ?_
  refine tX 7 rfl hS ?_
  refine tX 8 rfl hS ?_
  go_simp
  refine rD 9 rfl (fun K hK=>?_)
  have HS0:=Hi hS
  go_simp
  have hba:=(Below.refl wd.heap.size wd).alloc (Nat.le_refl _) (.cells #[.int .i64 0,.int .i64 0,.string ⟨#[]⟩] 106)
  refine hK.out _ _ (hS.trans (hba.mono hS.size)) (fun hS=>?_)
  clear hK K hba
  refine rD 10 rfl (fun K hK=>?_)
  refine step_of (by kernel_rfl) ?_
  refine wp_store_newag spT _ _ rfl rfl _ (A:=spA va) rfl rfl rfl (spA_one _) ?_
  intro w5 hv5 hb5
  refine hK.out _ _ (HS0.out.trans (hb5.mono HS0.out.size)) (fun hS=>?_)
  clear hK K hv5 hb5
  refine tX 11 rfl hS ?_
  go_simp
  refine wpAnyH_done (by kernel_rfl) ?_ _
  refine NoPanic.normal ?_
  go_simp
  have HR5:=Hi (AgAt.kept HR.out hS)
  have hcr:=HR5.out.cell 0
  have hfr:=HR5.out.free 0
  have HB5:=Hi (HB.out.trans (hS.mono HB.out.size))
  clear hS HS0 HL HN HR HIB HVA
  go_wp2
  refine ⟨.bool ib,?_,rfl,HB5.out.setCell (p:=⟨w.heap.size+1+1,0,none⟩) (by simp; omega) _⟩
  have hc5:(w5.setCell ⟨w.heap.size+1+1,0,none⟩ (.bool ib)).cell? ⟨w.heap.size+1+1,0,none⟩=some (.bool ib):=World.cell?_setCell_same' _ _ _ (by rw [hcr]; rfl)
  simp [results,Tryz.f323,go_sem,hc5]
 ·rw [if_neg hpn]
  have HEQ:=Hi (show decide (p=n)=false from decide_eq_false hpn)
  go_wp2_with fail
  rw [← hW1]
  clear hW1
  refine (ours_any _ HL.out).mono ?_
  rintro e w1 ⟨rfl,rfl⟩
  go_wp2_with (first | (refine wpList_load_ag stT (by kernel_rfl) _ rfl _ rfl (A:=#[.int .i64 p.1,.int .i64 p.2]) rfl HP.out ?_) | (refine wpList_load_ag stT (by kernel_rfl) _ rfl _ rfl (A:=#[.int .i64 n.1,.int .i64 n.2]) rfl HN.out ?_) | (refine wpList_value (by kernel_rfl) (exec_eql_st rfl p n rfl rfl) ?_; rw [HEQ.out]))
  refine (up_any P n _).mono ?_
  rintro e w2 ⟨rfl,hu1,hu2,hb2⟩
  have hUP:UpAt w2 W1.heap.size (W1.heap.size+1) P M1 M2 n T:=⟨hu1,hu2,(HL.out.kept hb2).at_,(HL.out.kept hb2).spots⟩
  have hR2:=AgAt.kept HR.out hb2
  have hP2:=AgAt.kept HP.out hb2
  have hb3:Below w.heap.size w w2:=HB.out.trans (hb2.mono HB.out.size)
  have hz2:w.heap.size+1+1+1≤w2.heap.size:=by have:=hb2.size; have:=HZ.out; omega
  have hwit:Wit w.heap.size (w.heap.size+1+1) p [] (fun k=>k=w.heap.size∨k=w.heap.size+1+1) w2:=⟨by simp,hP2,hR2,fun _=>Iff.rfl⟩
  have hseq:=up1_seq ok hn hpar (F0:=fun k=>k=w.heap.size∨k=w.heap.size+1+1) w2 hUP (by have:=HZ.out; omega) (by have:=HZ.out; omega) (by have:=HPL.out; omega) (by have:=HPL.out; omega)
  clear hu1 hu2 hb2 HL HN HR HP hUP hR2 hP2
  go_wp2_with fail
  refine (wpIn_wide (n:=0)).1 ?_
  refine wp_rangeFunc_fp (gf:=312) (lb:=#[.pointer (some ⟨W1.heap.size,0,none⟩),.pointer (some ⟨W1.heap.size+1,0,none⟩)]) rfl (enters_of Tryz.func312 (by kernel_rfl) rfl) hseq (Wit w.heap.size (w.heap.size+1+1) p) (WitX w.heap.size (w.heap.size+1+1) p) Wit.stable WitX.stable Wit.lt (F:=fun k=>k=w.heap.size∨k=w.heap.size+1+1) (fun k hk=>hk) hwit ?round ?done ?stop
  case round =>
   rintro l pre x Fp W ⟨hno,hp,hr,hfp⟩ hsp hnl hll
   have hl0:l≠w.heap.size:=fun h=>hnl ((hfp l).2 (Or.inl h))
   have hl2:l≠w.heap.size+1+1:=fun h=>hnl ((hfp l).2 (Or.inr h))
   gi_wp2_with (refine wpListIn_store_newag stT rfl _ _ rfl rfl _ (A:=#[.int .i64 x.1,.int .i64 x.2]) rfl rfl rfl (stA_one _ _) ?_; intro w5 hv5 hb5)
   refine ⟨Turns.of_below hb5,?_⟩
   intro W2 ht2 hz3
   have hx2:AgAt W2 W.heap.size #[.int .i64 x.1,.int .i64 x.2]:=AgAt.block hv5 (ht2.block _ (AgAt.lt hv5) (by omega))
   have h01:Turns (fun k=>k=l) W W2:=(Turns.of_below hb5).trans (ht2.mono fun k _ hk=>Or.inl hk)
   have hp2:=AgAt.block hp (h01.block _ (AgAt.lt hp) fun h=>hl0 h.symm)
   have hr2:=AgAt.block hr (h01.block _ (AgAt.lt hr) fun h=>hl2 h.symm)
   have hc2:=hr2.cell 0
   have hf2:=hr2.free 0
   clear hz3
   by_cases hxp:x=p
   ·have he:decide (x=p)=true:=decide_eq_true hxp
    gi_wp2_with (first | (refine wpListIn_load_ag stT rfl _ rfl _ rfl (A:=#[.int .i64 x.1,.int .i64 x.2]) rfl hx2 ?_) | (refine wpListIn_load_ag stT rfl _ rfl _ rfl (A:=#[.int .i64 p.1,.int .i64 p.2]) rfl hp2 ?_) | (refine wpListIn_value rfl (by intro c hc; cases hc) (by simp [Oper.about]) (exec_eql_st rfl x p rfl rfl) ?_; rw [he]))
    refine ⟨fun k=>k=w.heap.size∨k=w.heap.size+1+1,(set_turns (w.heap.size+1+1) W2 0 _).mono fun k _ hk=>Or.inl ((hfp k).2 (Or.inr hk)),fun k hk=>Or.inl ((hfp k).2 hk),rfl,by rw [hxp]; simp,AgAt.put hr2 0 _,fun _=>Iff.rfl⟩
   ·have he:decide (x=p)=false:=decide_eq_false hxp
    gi_wp2_with (first | (refine wpListIn_load_ag stT rfl _ rfl _ rfl (A:=#[.int .i64 x.1,.int .i64 x.2]) rfl hx2 ?_) | (refine wpListIn_load_ag stT rfl _ rfl _ rfl (A:=#[.int .i64 p.1,.int .i64 p.2]) rfl hp2 ?_) | (refine wpListIn_value rfl (by intro c hc; cases hc) (by simp [Oper.about]) (exec_eql_st rfl x p rfl rfl) ?_; rw [he]))
    refine ⟨fun k=>k=w.heap.size∨k=w.heap.size+1+1,Turns.refl _ _,fun k hk=>Or.inl ((hfp k).2 hk),fun hm=>?_,hp2,hr2,fun _=>Iff.rfl⟩
    rcases List.mem_append.1 hm with hm | hm
    ·exact hno hm
    ·exact hxp (List.mem_singleton.1 hm).symm
  case done =>
   rintro D xs Fp W rfl ⟨hno,hp,hr,hfp⟩ ht hg hD hDl hDn
   have hc2:=hr.cell 0
   have hf2:=hr.free 0
   go_wp2
   have hDB:D≠w.heap.size+1+1:=fun h=>hDn ((hfp D).2 (Or.inr h))
   have hst:=set_turns (w.heap.size+1+1) W 0 (.bool false)
   have hD':(W.setCell ⟨w.heap.size+1+1,0,none⟩ (.bool false)).heap[D]?=some (.deferred (some [])):=(hst.block D (Array.getElem?_eq_some_iff.1 hD).1 hDB).trans hD
   refine ⟨by simp,.inl ⟨_,_,rfl,run_takeDeferred hD',?_⟩⟩
   have hpt:=putObj_turns (W.setCell ⟨w.heap.size+1+1,0,none⟩ (.bool false)) D (.deferred none)
   have hc5:=hpt.cell (p:=⟨w.heap.size+1+1,0,none⟩) (World.cell?_setCell_same' W ⟨w.heap.size+1+1,0,none⟩ (.bool false) (by rw [hc2]; rfl)) (fun h=>hDB h.symm)
   refine ⟨.bool false,?_,?_,?_⟩
   ·simp [results,Tryz.f323,go_sem,hc5]
   ·have:(Tm.chain T n).contains p=false:=by simpa using hno
    rw [this]
   ·exact (hb3.trans (ht.below (B:=w.heap.size) (fun k _ hk=>by omega) hb3.size)).trans ((hst.below (B:=w.heap.size) (fun k _ hk=>by omega) (Nat.le_trans hb3.size ht.size)).trans (hpt.below (B:=w.heap.size) (fun k _ hk=>by omega) (by simp; exact Nat.le_trans hb3.size ht.size)))
  case stop =>
   rintro D c pre Fp W hsp ⟨rfl,hin,hr,hfp⟩ ht hg hD hDl hDn
   have hc2:=hr.cell 0
   gi_wp2
   have hDB:D≠w.heap.size+1+1:=fun h=>hDn ((hfp D).2 (Or.inr h))
   refine ⟨by simp,.inl ⟨_,_,rfl,run_takeDeferred hD,?_⟩⟩
   have hpt:=putObj_turns W D (.deferred none)
   have hc5:=hpt.cell (p:=⟨w.heap.size+1+1,0,none⟩) hc2 (fun h=>hDB h.symm)
   refine ⟨.bool true,?_,?_,?_⟩
   ·simp [results,Tryz.f323,go_sem,hc5]
   ·have:(Tm.chain T n).contains p=true:=by simpa using hsp.subset hin
    rw [this]
   ·exact (hb3.trans (ht.below (B:=w.heap.size) (fun k _ hk=>by omega) hb3.size)).trans (hpt.below (B:=w.heap.size) (fun k _ hk=>by omega) (Nat.le_trans hb3.size ht.size))
end Go.Proofs.YthfhefdfehlbkaaGreat

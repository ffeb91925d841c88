/-
  A DOCUMENT's LOOKS: Spot, Vector, Alive, Locked.
  No conditions but sizes.
  A DOCUMENT THAT A LAW HAS MADE, beside boxes and rows of the law's: what each look leaves.
  No conditions but sizes.
-/
import Derived.Test.YthfhefdfehlbkaaGreatSh
import Derived.Test.YthfhefdfehlbkaaGreatK30
import Derived.Test.YthfhefdfehlbkaaGreatK31
import Derived.Test.YthfhefdfehlbkaaGreatK26
set_option maxRecDepth 100000
set_option maxHeartbeats 4000000
namespace Go.Proofs.YthfhefdfehlbkaaGreat
open Go.RowKit
open Tm (Sp Tr)
theorem DLeft.turned {w W W' W'':World} {d l gg P b:Nat} {L:Lg} {ws:List Pm.Wr} {c:Nat→Nat} (hw:Below w.heap.size w W) (h:DLeft d l gg P L ws c W W') (hl:w.heap.size≤b) (hb:b<W.heap.size) (hz:c b=0) (ht:Turns (fun k=>k=b) W' W''):DLeft d l gg P L ws c w W'':=by
 obtain ⟨c',h1,h2⟩:=h.after hw
 obtain ⟨c2,k1,k2⟩:=h
 have h3:c2 b=0:=(k2.keep b hb).trans hz
 exact ⟨c2,k1.turns ht fun k hk e=>hk (by rw [e]; exact h3),⟨((Turns.of_below hw).trans (k2.turns.mono fun k _ hk=>Or.inl hk)).trans (ht.mono fun k _ e=>Or.inr (by omega)),fun k hk=>k2.keep k (Nat.lt_of_lt_of_le hk hw.size)⟩⟩
theorem dspot_any {d l gg P:Nat} {L:Lg} {ws:List Pm.Wr} {c:Nat→Nat} (s:Qm.St) (w:World) (h:Dc w d l gg P L ws c) (hn:StWf s) :
  Calls Tryz.prog 51 #[ptV d,snV s] w fun e w'=>e=.returned (.tuple #[.agg (spA (((Gm.run (Gm.insAll ws)).s s).getD zS)),.bool ((Gm.run (Gm.insAll ws)).s s).isSome])∧DLeft d l gg P L ws c w w':=by
 have h1:∀ (w:World) (o:Obj),Below w.heap.size w (w.alloc o):=fun w o=>(Below.refl _ _).alloc (Nat.le_refl _) _
 have hb:=((h1 w (.cells (stA s) 35)).trans ((h1 (w.alloc (.cells (stA s) 35)) (.cells #[.int .i64 0,.int .i64 0,.string ⟨#[]⟩] 106)).mono (by simp)))
 have HD:=Hi (h.kept hb)
 have HN:=Hi ((AgAt.new w (stA s) 35).kept (h1 _ (.cells #[.int .i64 0,.int .i64 0,.string ⟨#[]⟩] 106)))
 have HX:=Hi (show AgAt ((w.alloc (.cells (stA s) 35)).alloc (.cells #[.int .i64 0,.int .i64 0,.string ⟨#[]⟩] 106)) (w.heap.size+1) #[.int .i64 0,.int .i64 0,.string ⟨#[]⟩] from by
  have:=AgAt.new (w.alloc (.cells (stA s) 35)) #[.int .i64 0,.int .i64 0,.string ⟨#[]⟩] 106
  rwa [World.size_alloc] at this)
 have HB:=Hi hb
 have HZ:=Hi (show c w.heap.size=0∧c (w.heap.size+1)=0 from ⟨h.zero (Nat.le_refl _),h.zero (by omega)⟩)
 obtain ⟨ib,hib⟩:∃ b,b=((Gm.run (Gm.insAll ws)).s s).isSome:=⟨_,rfl⟩
 obtain ⟨va,hva⟩:∃ v,v=((Gm.run (Gm.insAll ws)).s s).getD zS:=⟨_,rfl⟩
 have HSP:=Hi (fun (W:World) (hc:Dc W d l gg P L ws c)=>show Calls Tryz.prog 74 #[ptV gg,snV s] W fun e w'=>e=.returned (.tuple #[.agg (spA va),.bool ib])∧DLeft d l gg P L ws c W w' from by
  rw [hib,hva]; exact hc.spot s hn)
 rw [← hib,← hva]
 clear h hb hn hib hva h1
 go_enter Tryz.func51,Tryz.ntmps51
 go_upto_region 1 with fail
 generalize (w.alloc (.cells (stA s) 35)).alloc (.cells #[.int .i64 0,.int .i64 0,.string ⟨#[]⟩] 106)=w0 at *
 have hbd:=Below.drew (Below.refl w0.heap.size w0)
 replace HD:=Hi (HD.out.kept hbd)
 replace HN:=Hi (AgAt.kept HN.out hbd)
 replace HX:=Hi (AgAt.kept HX.out hbd)
 replace HB:=Hi (HB.out.trans (hbd.mono HB.out.size))
 refine wp_region_held_drew (S:=fun W=>AgAt W w.heap.size (stA s)) (by kernel_rfl) HN.out (fun hS=>?_)
 clear hbd HN
 generalize w0.drew=wd at *
 refine tX 0 rfl hS ?_
 go_simp
 refine tK 3 (v:=snV s) rfl (fun W hSW=>exec_load_ag stT rfl rfl rfl hSW) hS ?_
 go_simp
 refine rD 1 rfl (fun K hK=>?_)
 go_simp
 go_wp2_with (go_at_call 115; refine (down_any _ HD.out.box).mono ?_; rintro e w1 ⟨rfl,hb1⟩)
 replace HD:=Hi (HD.out.kept hb1)
 replace HX:=Hi (AgAt.kept HX.out hb1)
 replace HB:=Hi (HB.out.trans (hb1.mono HB.out.size))
 refine hK.out _ _ (hS.kept hb1) (fun hS=>?_)
 clear hK K hb1
 refine tK 2 (v:=?_) rfl ?_ hS ?_
 rotate_left
 ·intro W hSW
  have c:=field_pa1 l gg P W
  go_simp
  all_goals with_reducible rfl
 go_simp
 refine rD 4 rfl (fun K hK=>?_)
 have HC:=Hi (HSP.out w1 HD.out)
 have HLT:=Hi (AgAt.lt HX.out)
 go_simp
 go_wp2_with (go_at_call 74; refine HC.out.mono ?_; rintro e w2 ⟨rfl,hl2⟩)
 have HL2:=Hi hl2
 have HX2:=Hi (HL2.out.at_ HX.out HZ.out.2)
 refine hK.out _ _ (HL2.out.at_ hS HZ.out.1) (fun hS=>?_)
 clear hK K HC hl2 HSP HX HD
 refine tX 5 rfl hS ?_
 refine tX 6 rfl hS ?_
 go_simp
 refine rD 7 rfl (fun K hK=>?_)
 refine step_of (by kernel_rfl) ?_
 refine wp_store_agG spT _ _ rfl _ rfl _ HX2.out rfl rfl rfl (spA_one _) ?_
 intro w3 hv3 hk3 hs3 hb3
 have HV3:=Hi hv3
 have HE:=Hi (HL2.out.turned HB.out (by omega) HLT.out HZ.out.2 (turns_of_store hk3 hs3 hb3))
 refine hK.out _ _ (AgAt.block hS (hk3 _ (by omega))) (fun hS=>?_)
 clear hK K hk3 hs3 hb3 HX2 HL2 HLT HZ HB
 refine tX 8 rfl hS ?_
 go_simp
 refine wpAnyH_done (by kernel_rfl) ?_ _
 go_simp
 clear hS
 go_wp2
 refine bodyPost_ret (results_two spT _ rfl rfl hv3 rfl rfl) rfl ?_
 exact ⟨rfl,HE.out⟩
theorem dvector_any {d l gg P:Nat} {L:Lg} {ws:List Pm.Wr} {c:Nat→Nat} (w:World) (h:Dc w d l gg P L ws c):Calls Tryz.prog 42 #[ptV d] w fun e w'=>e=.returned (.agg (vecA (vecL9 L)))∧Below w.heap.size w w':=by
 have hfd:=field_pa0 l gg P
 have hb:=(Below.refl w.heap.size w).alloc (Nat.le_refl _) (.cells (vecA fun _=>0) 93)
 have HV:=Hi (VAt.new w (fun _=>0) 93)
 have HD:=Hi (h.kept hb)
 have HB:=Hi hb
 clear h hb
 go_enter Tryz.func42,Tryz.ntmps42
 go_wp2_with fail
 refine (down_any _ HD.out.box).mono ?_
 rintro e w1 ⟨rfl,hb1⟩
 replace HV:=Hi (HV.out.kept hb1)
 have HC:=Hi (HD.out.kept hb1).vector
 replace HB:=Hi (HB.out.trans (hb1.mono HB.out.size))
 clear hb1 HD
 go_wp2_with fail
 refine HC.out.mono ?_
 rintro e w2 ⟨rfl,hb2⟩
 replace HV:=Hi (HV.out.kept hb2)
 replace HB:=Hi (HB.out.trans (hb2.mono HB.out.size))
 clear hb2 HC
 go_wp2_with (refine wpList_store_vec vtP rfl _ _ rfl _ rfl _ _ HV.out rfl ?_; intro w3 hv3 _ _ hb3)
 exact bodyPost_ret (results_vec vtP _ rfl hv3 rfl) rfl ⟨rfl,hb3 _ _ HB.out (Nat.le_refl _)⟩
theorem exec_build_zD {o:Oper} {a:Act} {w:World} (ho:o.op=.build 35 #[]):(execOp a.eval o).run Tryz.prog w=.ok (.value (.agg #[.int .i64 0,.int .i64 0])) w:=by
 have hr:(Instr.build 35 #[]).run Tryz.prog w=.ok (.agg #[.int .i64 0,.int .i64 0]) w:=by kernel_rfl
 unfold execOp
 simp only [ho,Sem.run_bind,Sem.run_pure,Result.andThen_ok,List.map_toArray,List.map_nil,hr]
theorem exec_build_tD {o:Oper} {a:Act} {w:World} (ho:o.op=.build 35 #[(1,.const (.int .i64 1))]):(execOp a.eval o).run Tryz.prog w=.ok (.value (.agg #[.int .i64 0,.int .i64 1])) w:=by
 have hr:(Instr.build 35 #[(1,.int .i64 1)]).run Tryz.prog w=.ok (.agg #[.int .i64 0,.int .i64 1]) w:=by kernel_rfl
 have he:a.eval (.const (.int .i64 1))=.int .i64 1:=rfl
 unfold execOp
 simp only [ho,Sem.run_bind,Sem.run_pure,Result.andThen_ok,List.map_toArray,List.map_cons,List.map_nil,he,hr]
theorem exec_eql_stD {c:Act} {o:Oper} {x y:Operand} {ty:TypeId} (ho:o.op=.binOp .eql 35 x y ty) {w:World} (p q:Qm.St) (hx:c.eval x=snV p) (hy:c.eval y=snV q) {b:Bool} (hb:decide (p=q)=b) :
  (execOp c.eval o).run Tryz.prog w=.ok (.value (.bool b)) w:=by
 subst hb
 obtain ⟨a,b⟩:=p
 obtain ⟨d,e⟩:=q
 unfold execOp
 simp only [ho,hx,hy]
 go_simp
 by_cases h1:a=d <;> by_cases h2:b=e <;> simp [h1,h2]
theorem dalive_any {d l gg P:Nat} {L:Lg} {ws:List Pm.Wr} {c:Nat→Nat} (s:Qm.St) (w:World) (h:Dc w d l gg P L ws c) (hn:StWf s) :
  Calls Tryz.prog 61 #[ptV d,snV s] w fun e w'=>∃ T,TreeG (Gm.insAll ws) T∧e=.returned (.bool (decide ((Tm.chain T s).getLast?=some (0,0))))∧DLeft d l gg P L ws c w w':=by
 have hb:=(Below.refl w.heap.size w).alloc (Nat.le_refl _) (.cells (stA s) 35)
 have HD:=Hi (h.kept hb)
 have HN:=Hi (AgAt.new w (stA s) 35)
 have HB:=Hi hb
 have HWN:=Hi hn
 clear h hb hn
 go_enter Tryz.func61,Tryz.ntmps61
 go_wp2_with (refine wpList_load_ag stT (by kernel_rfl) _ rfl _ rfl (A:=stA s) rfl HN.out ?_)
 refine (dabove_any s _ HD.out HWN.out).mono ?_
 rintro e w1 ⟨p,c',m,T,rfl,ht,hm,hl⟩
 have hmt:(Tm.chain T s).length≤T.length:=Tm.up_len (ht.ok.chain s)
 have hml:m.length≤80:=by rw [hm]; exact Nat.le_trans hmt ht.few
 have HE:=Hi (show ∀ b,b=decide (m.getLast?=some (0,0))→∃ T,TreeG (Gm.insAll ws) T∧Ending.returned (.bool b)=.returned (.bool (decide ((Tm.chain T s).getLast?=some (0,0))))∧DLeft d l gg P L ws c w w1 from fun b hb=>⟨T,ht,by rw [hb,hm],(hl.left).after HB.out⟩)
 have HR:=Hi (show Rd w1 p (stCells m) from by
  obtain ⟨c1,-,-,h3,-⟩:=hl
  exact h3)
 clear ht hm hl HD HN HB HWN hmt
 by_cases h0:m.length=0
 ·have d0:decide ((0:Int)<(m.length:Int))=false:=decide_eq_false (by omega)
  have HF:=Hi (HE.out false (by rw [List.length_eq_zero_iff.1 h0]; rfl))
  rw [h0]
  clear HE h0 d0
  go_wp2
  go_ret
  exact HF.out
 ·obtain ⟨n,hln⟩:∃ n,n=m.length:=⟨_,rfl⟩
  obtain ⟨j,hj⟩:∃ j,j=n - 1:=⟨_,rfl⟩
  have d0:decide ((0:Int)<(n:Int))=true:=decide_eq_true (by omega)
  have c3:IntKind.i64.wrap ((n:Int) - 1)=(j:Int):=by rw [wraps_i64 _ (by omega) (by omega)]; omega
  obtain ⟨b,o,rfl,-⟩:=HR.out.addr (by rw [stCells_length]; omega)
  obtain ⟨y,hy⟩:∃ y,m[j]?=some y:=⟨_,List.getElem?_eq_getElem (by omega)⟩
  have HQ:=Hi (HE.out (decide (y=(0,0))) (by
   rw [List.getLast?_eq_getElem?,← hln,← hj,hy]
   by_cases e:y=(0,0)
   ·rw [e]; rfl
   ·rw [decide_eq_false e,decide_eq_false (fun h=>e (Option.some.inj h))]))
  obtain ⟨y1,y2⟩:=y
  have HY:=Hi hy
  obtain ⟨bq,hbq⟩:∃ b,decide ((y1,y2)=((0:Int),(0:Int)))=b:=⟨_,rfl⟩
  have HBQ:=Hi hbq
  rw [hbq] at HQ
  have hjn:j<n:=by omega
  rw [← hln]
  clear HE h0 hy hbq hln hj hml
  go_wp2_with (first | (refine wpList_value (by kernel_rfl) (exec_load_stH rfl rfl HR.out HY.out) ?_) | (refine wpList_value (by kernel_rfl) (exec_build_zD rfl) ?_) | (refine wpList_value (by kernel_rfl) (exec_eql_stD rfl (y1,y2) (0,0) rfl rfl HBQ.out) ?_))
  go_ret
  exact HQ.out
theorem dlk_any {P b5 l gg d:Nat} {L:Lg} {ws:List Pm.Wr} {c:Nat→Nat} (s:Qm.St) (w:World) (h:Dc w d l gg P L ws c) (h5:AgAt w b5 #[ptV l,ptV gg,ptV P]) (hn:StWf s) :
  Calls Tryz.prog 138 #[snV s,ptV b5] w fun e w'=>e=.returned (.bool (decide (((Pm.allR ws).v (Pm.nameV s 1)).2=(4,1,⟨#[]⟩))))∧Below w.heap.size w w':=by
 have hb:=(Below.refl w.heap.size w).alloc (Nat.le_refl _) (.cells (stA s) 35)
 have HN:=Hi (AgAt.new w (stA s) 35)
 have HB:=Hi hb
 have y2:(w.alloc (.cells (stA s) 35)).cell? ⟨b5,2,none⟩=some (ptV P):=(AgAt.cell (h5.kept hb) 2).trans rfl
 obtain ⟨S,M,m,F,χ,M1,M2,M3,h,-⟩:=h
 have HF:=Hi (flag_any s 1 _ (h.re.kept hb) (wfV hn.1 hn.2 (by decide)))
 clear h hb hn h5
 go_enter Tryz.func138,Tryz.ntmps138
 go_wp2_with (refine wpList_load_ag stT (by kernel_rfl) _ rfl _ rfl (A:=stA s) rfl HN.out ?_)
 refine HF.out.mono ?_
 rintro e w1 ⟨rfl,hb1⟩
 have HE:=Hi (HB.out.trans (hb1.mono HB.out.size))
 clear HF HN HB hb1 y2
 go_wp2
 go_ret
 exact ⟨rfl,HE.out⟩
theorem dlocked_self {d l gg P:Nat} {L:Lg} {ws:List Pm.Wr} {c:Nat→Nat} (s:Qm.St) (w:World) (h:Dc w d l gg P L ws c) (hn:StWf s) {v:Sp} (hv:(Gm.run (Gm.insAll ws)).s s=some v) (hf:((Pm.allR ws).v (Pm.nameV s 1)).2=(4,1,⟨#[]⟩)) :
  Calls Tryz.prog 60 #[ptV d,snV s] w fun e w'=>e=.returned (.bool true)∧DLeft d l gg P L ws c w w':=by
 have hb:=(Below.refl w.heap.size w).alloc (Nat.le_refl _) (.cells (stA s) 35)
 have HD:=Hi (h.kept hb)
 have HN:=Hi (AgAt.new w (stA s) 35)
 have HB:=Hi hb
 have HZ:=Hi (show ∀ k,w.heap.size≤k→c k=0 from fun k hk=>h.zero hk)
 have HWN:=Hi hn
 have HV:=Hi hv
 have HF:=Hi hf
 clear h hb hn hv hf
 go_enter Tryz.func60,Tryz.ntmps60
 go_upto_region 1 with fail
 generalize w.alloc (.cells (stA s) 35)=w0 at *
 go_wp2_with fail
 refine (down_any _ HD.out.box).mono ?_
 rintro e w1 ⟨rfl,hb1⟩
 go_upto_region 2 with (refine wpList_store_newag paT rfl _ _ rfl rfl _ (A:=#[ptV l,ptV gg,ptV P]) rfl rfl rfl ptA_one ?_; intro w2 hv2 hb2)
 have hbw:=HB.out.trans (hb1.mono HB.out.size)
 have HA5:=Hi hv2
 have H5:=Hi (show w.heap.size≤w1.heap.size from hbw.size)
 replace HB:=Hi (hbw.trans (hb2.mono hbw.size))
 replace HD:=Hi ((HD.out.kept hb1).kept hb2)
 replace HN:=Hi ((HN.out.kept hb1).kept hb2)
 obtain ⟨b5,hb5⟩:∃ b,b=w1.heap.size:=⟨_,rfl⟩
 rw [← hb5] at HA5 H5 ⊢
 have y1:w2.cell? ⟨b5,1,none⟩=some (ptV gg):=(AgAt.cell HA5.out 1).trans rfl
 have HSP:=Hi (HD.out.spot s HWN.out)
 rw [HV.out] at HSP
 clear hv2 hb2 hb1 hbw hb5
 go_wp2_with (refine wpList_load_ag stT (by kernel_rfl) _ rfl _ rfl (A:=stA s) rfl HN.out ?_)
 refine HSP.out.mono ?_
 rintro e w3 ⟨rfl,hl3⟩
 replace HA5:=Hi (hl3.at_ HA5.out (HZ.out _ H5.out))
 replace HN:=Hi (hl3.at_ HN.out (HZ.out _ (Nat.le_refl _)))
 have HL:=Hi (hl3.after HB.out)
 obtain ⟨c3,hd3,-⟩:=hl3
 have HD3:=Hi hd3
 clear hd3 HSP HD y1 HB HZ H5
 go_upto_region 3 with (refine wpList_store_newag spT rfl _ _ rfl rfl _ (A:=spA v) rfl rfl rfl (spA_one _) ?_; intro w4 hv4 hb4)
 have HLK:=Hi (dlk_any s w4 (HD3.out.kept hb4) (HA5.out.kept hb4) HWN.out)
 rw [HF.out] at HLK
 replace HL:=Hi (HL.out.below hb4)
 replace HN:=Hi (HN.out.kept hb4)
 clear hv4 hb4 HD3 HA5
 go_wp2_with (refine wpList_load_ag stT (by kernel_rfl) _ rfl _ rfl (A:=stA s) rfl HN.out ?_)
 refine HLK.out.mono ?_
 rintro e w5 ⟨rfl,hb5⟩
 have HE:=Hi (HL.out.below hb5)
 clear HL hb5 HLK HN HF HV HWN
 go_wp2
 go_ret
 exact ⟨rfl,HE.out⟩
open Go.RowKit
open Tm (Sp Tr)
structure DHx (w:World) (d l gg P:Nat) (D:Lg × List Pm.Wr) (c:Nat→Nat) (bs:List (Nat × Array Value)) (rs:List (Option Addr × List Value)) (W:World):Prop where
 dc:Dc W d l gg P D.1 D.2 c
 bel:Below w.heap.size w W
 far:∀ k,c k≠0→w.heap.size≤k
 bx:∀ e ∈ bs,AgAt W e.1 e.2∧c e.1=0
 rw:∀ e ∈ rs,Rd W e.1 e.2∧(0<e.2.length→∀ a,e.1=some a→a.block<W.heap.size∧c a.block=0)
def DH (w:World) (d:Nat) (D:Lg × List Pm.Wr) (bs:List (Nat × Array Value)) (rs:List (Option Addr × List Value)) (W:World):Prop:=∃ l gg P c,DHx w d l gg P D c bs rs W
section
variable {w W W':World} {d l gg P:Nat} {D D':Lg × List Pm.Wr} {c c':Nat→Nat} {bs:List (Nat × Array Value)} {rs:List (Option Addr × List Value)}
theorem DHx.goes (h:DHx w d l gg P D c bs rs W) (hd:Dc W' d l gg P D'.1 D'.2 c') (hg:DGo W c W' c'):DHx w d l gg P D' c' bs rs W':=by
 obtain ⟨k1,k2⟩:=hg.far h.bel h.far
 have hz:∀ j,c j=0→¬ (1≤c j∧c j≤3):=fun j e=>by omega
 refine ⟨hd,k1,k2,fun e he=>?_,fun e he=>?_⟩
 ·obtain ⟨h1,h2⟩:=h.bx e he
  exact ⟨h1.turn hg.turns (hz _ h2),(hg.keep _ (AgAt.lt h1)).trans h2⟩
 ·obtain ⟨h1,h2⟩:=h.rw e he
  refine ⟨fun h0=>hg.turns.rd h1 (fun a ha=>hz _ (h2 h0 a ha).2) h0,fun h0 a ha=>?_⟩
  obtain ⟨h3,h4⟩:=h2 h0 a ha
  exact ⟨Nat.lt_of_lt_of_le h3 hg.turns.size,(hg.keep _ h3).trans h4⟩
theorem DN.hold (h:DN w d D W):DH w d D [] [] W:=by
 obtain ⟨l,gg,P,c,h1,h2,h3⟩:=h
 exact ⟨l,gg,P,c,h1,h2,h3,fun _ h=>(by cases h),fun _ h=>(by cases h)⟩
theorem DH.kept (h:DH w d D bs rs W) (hb:Below W.heap.size W W'):DH w d D bs rs W':=by
 obtain ⟨l,gg,P,c,h⟩:=h
 exact ⟨l,gg,P,c,h.goes (D':=D) (h.dc.kept hb) (DGo.of_below hb)⟩
theorem DH.bel (h:DH w d D bs rs W):Below w.heap.size w W:=by
 obtain ⟨l,gg,P,c,h⟩:=h
 exact h.bel
theorem DH.at_ (h:DH w d D bs rs W) {b:Nat} {A:Array Value} (hb:(b,A) ∈ bs):AgAt W b A:=by
 obtain ⟨l,gg,P,c,h⟩:=h
 exact (h.bx _ hb).1
theorem DH.rd (h:DH w d D bs rs W) {p:Option Addr} {cs:List Value} (hb:(p,cs) ∈ rs):Rd W p cs:=by
 obtain ⟨l,gg,P,c,h⟩:=h
 exact (h.rw _ hb).1
theorem DH.less {bs':List (Nat × Array Value)} {rs':List (Option Addr × List Value)} (h:DH w d D bs rs W) (hb:∀ e ∈ bs',e ∈ bs) (hr:∀ e ∈ rs',e ∈ rs):DH w d D bs' rs' W:=by
 obtain ⟨l,gg,P,c,h⟩:=h
 exact ⟨l,gg,P,c,h.dc,h.bel,h.far,fun e he=>h.bx e (hb e he),fun e he=>h.rw e (hr e he)⟩
theorem DH.box (h:DH w d D bs rs W) (hb:Below W.heap.size W W') {b:Nat} {A:Array Value} (ha:AgAt W' b A) (hl:W.heap.size≤b):DH w d D ((b,A) :: bs) rs W':=by
 obtain ⟨l,gg,P,c,h⟩:=h
 have h2:=h.goes (D':=D) (h.dc.kept hb) (DGo.of_below hb)
 refine ⟨l,gg,P,c,h2.dc,h2.bel,h2.far,fun e he=>?_,h2.rw⟩
 rcases List.mem_cons.1 he with rfl | he
 ·exact ⟨ha,h.dc.zero hl⟩
 ·exact h2.bx e he
theorem DHx.left (h:DHx w d l gg P D c bs rs W) (hl:DLeft d l gg P D.1 D.2 c W W'):DH w d D bs rs W':=by
 obtain ⟨c',h1,h2⟩:=hl
 exact ⟨l,gg,P,c',h.goes h1 h2⟩
theorem DHx.leftR {p:Option Addr} {cs:List Value} (h:DHx w d l gg P D c bs rs W) (hl:DLeftR d l gg P D.1 D.2 c p cs W W'):DH w d D bs ((p,cs) :: rs) W':=by
 obtain ⟨c',h1,h2,h3,h4⟩:=hl
 have h5:=h.goes (D':=D) h1 h2
 refine ⟨l,gg,P,c',h5.dc,h5.bel,h5.far,h5.bx,fun e he=>?_⟩
 rcases List.mem_cons.1 he with rfl | he
 ·refine ⟨h3,fun h0 a ha=>⟨?_,(h4 a ha).2⟩⟩
  obtain ⟨b,o,e,hb⟩:=h3.addr h0
  rw [show p=some a from ha] at e
  cases e
  exact hb
 ·exact h5.rw e he
theorem DH.made {w0 w2:World} (hb:Below w.heap.size w w0) {bs:List (Nat × Array Value)} (hx:∀ e ∈ bs,AgAt w0 e.1 e.2) (hd:Dc w2 d l gg P Lg.zero [] c) (hb2:Below w0.heap.size w0 w2) (hf:∀ k,c k≠0→w0.heap.size≤k):DH w d (Lg.zero,[]) bs [] w2 :=
 ⟨l,gg,P,c,hd,hb.trans (hb2.mono hb.size),fun k hk=>Nat.le_trans hb.size (hf k hk),fun e he=>⟨(hx e he).kept hb2,by
  by_cases h0:c e.1=0
  ·exact h0
  ·have h1:=hf _ h0
   have h2:=AgAt.lt (hx e he)
   omega⟩,fun _ h=>(by cases h)⟩
theorem DH.apply {n:Nat} (x:Bat) (p:Option Addr) (cc:Nat) (h:DH w d D bs rs W) (hd:DocOk n D.1 D.2) (hs:Szs x.ops) (hcp:CpSz x) (hbo:Bops W x p cc) (hl:n+x.ops.length<80) :
  Calls Tryz.prog 34 #[ptV d,.agg (btA x p cc)] W fun e w'=>e=.returned (.tuple #[.int .i64 ((addL D.1 x).2.1.length:Int),.int .i64 (addL D.1 x).2.2])∧DH w d ((addL D.1 x).1,addW D.1 D.2 x) bs rs w':=by
 obtain ⟨l,gg,P,c,h⟩:=h
 refine (dapply_any x p cc W h.dc hs hcp hbo (Nat.lt_of_le_of_lt (hd.came h.dc.ok fun hr=>⟨hr,hs,hcp⟩) hl)).mono ?_
 rintro e w' ⟨rfl,c',k1,k2⟩
 exact ⟨rfl,l,gg,P,c',h.goes (D':=((addL D.1 x).1,addW D.1 D.2 x)) k1 k2⟩
theorem DH.vector (h:DH w d D bs rs W):Calls Tryz.prog 42 #[ptV d] W fun e w'=>e=.returned (.agg (vecA (vecL9 D.1)))∧DH w d D bs rs w':=by
 have h0:=h
 obtain ⟨l,gg,P,c,h⟩:=h
 exact (dvector_any W h.dc).mono fun _ _ ⟨h1,h2⟩=>⟨h1,h0.kept h2⟩
theorem DH.time (h:DH w d D bs rs W):Calls Tryz.prog 44 #[ptV d] W fun e w'=>e=.returned (.int .i64 (tmS D.1 16).1)∧DH w d D bs rs w':=by
 have h0:=h
 obtain ⟨l,gg,P,c,h⟩:=h
 exact (dtime_any W h.dc).mono fun _ _ ⟨h1,h2⟩=>⟨h1,h0.kept h2⟩
theorem DH.lockedSelf (s1 s2:Int) (h:DH w d D bs rs W) (hn:StWf (s1,s2)) {v:Sp} (hv:(Gm.run (Gm.insAll D.2)).s (s1,s2)=some v) (hf:((Pm.allR D.2).v (Pm.nameV (s1,s2) 1)).2=(4,1,⟨#[]⟩)) :
  Calls Tryz.prog 60 #[ptV d,.agg #[.int .i64 s1,.int .i64 s2]] W fun e w'=>e=.returned (.bool true)∧DH w d D bs rs w':=by
 obtain ⟨l,gg,P,c,h⟩:=h
 exact (dlocked_self (s1,s2) W h.dc hn hv hf).mono fun _ _ ⟨h1,h2⟩=>⟨h1,h.left h2⟩
theorem DH.nodes (h:DH w d D bs rs W):Calls Tryz.prog 55 #[ptV d] W fun e w'=>∃ p c m T,e=.returned (.slice p (List.length m) c)∧TreeG (Gm.insAll D.2) T∧m.Perm (T.map Prod.fst)∧DH w d D bs ((p,stCells m) :: rs) w':=by
 obtain ⟨l,gg,P,c,h⟩:=h
 exact (dnodes_any W h.dc).mono fun _ _ ⟨p,c,m,T,h1,h2,h3,h4⟩=>⟨p,c,m,T,h1,h2,h3,h.leftR h4⟩
theorem DH.above (s1 s2:Int) (h:DH w d D bs rs W) (hn:StWf (s1,s2)):Calls Tryz.prog 57 #[ptV d,.agg #[.int .i64 s1,.int .i64 s2]] W fun e w'=>∃ p c m T,e=.returned (.slice p (List.length m) c)∧TreeG (Gm.insAll D.2) T∧m=Tm.chain T (s1,s2)∧DH w d D bs ((p,stCells m) :: rs) w':=by
 obtain ⟨l,gg,P,c,h⟩:=h
 exact (dabove_any (s1,s2) W h.dc hn).mono fun _ _ ⟨p,c,m,T,h1,h2,h3,h4⟩=>⟨p,c,m,T,h1,h2,h3,h.leftR h4⟩
theorem DH.row (s1 s2:Int) (h:DH w d D bs rs W) (hn:StWf (s1,s2)):Calls Tryz.prog 56 #[ptV d,.agg #[.int .i64 s1,.int .i64 s2]] W fun e w'=>∃ p c m T,e=.returned (.slice p (List.length m) c)∧TreeG (Gm.insAll D.2) T∧(m.Perm (Rtm.sibs T (s1,s2))∧Sbm.Srt m)∧DH w d D bs ((p,sbCells m) :: rs) w':=by
 obtain ⟨l,gg,P,c,h⟩:=h
 exact (drow_any (s1,s2) W h.dc hn).mono fun _ _ ⟨p,c,m,T,h1,h2,h3,h4⟩=>⟨p,c,m,T,h1,h2,h3,h.leftR h4⟩
theorem DH.has (s1 s2:Int) (h:DH w d D bs rs W) (hn:StWf (s1,s2)) {b:Bool} (hb:Gm.has (Gm.run (Gm.insAll D.2)) (s1,s2)=b) :
  Calls Tryz.prog 58 #[ptV d,.agg #[.int .i64 s1,.int .i64 s2]] W fun e w'=>e=.returned (.bool b)∧DH w d D bs rs w':=by
 obtain ⟨l,gg,P,c,h⟩:=h
 rw [← hb]
 exact (dhas_any (s1,s2) W h.dc hn).mono fun _ _ ⟨h1,h2⟩=>⟨h1,h.left h2⟩
theorem DH.spot (s1 s2:Int) (h:DH w d D bs rs W) (hn:StWf (s1,s2)) {v:Sp} (hv:(Gm.run (Gm.insAll D.2)).s (s1,s2)=some v) :
  Calls Tryz.prog 51 #[ptV d,.agg #[.int .i64 s1,.int .i64 s2]] W fun e w'=>e=.returned (.tuple #[.agg (spA v),.bool true])∧DH w d D bs rs w':=by
 obtain ⟨l,gg,P,c,h⟩:=h
 refine (dspot_any (s1,s2) W h.dc hn).mono ?_
 rintro e w' ⟨rfl,h2⟩
 rw [hv]
 exact ⟨rfl,h.left h2⟩
theorem DH.alive (s1 s2:Int) (h:DH w d D bs rs W) (hn:StWf (s1,s2)):Calls Tryz.prog 61 #[ptV d,.agg #[.int .i64 s1,.int .i64 s2]] W fun e w'=>∃ T,TreeG (Gm.insAll D.2) T∧e=.returned (.bool (decide ((Tm.chain T (s1,s2)).getLast?=some (0,0))))∧DH w d D bs rs w':=by
 obtain ⟨l,gg,P,c,h⟩:=h
 exact (dalive_any (s1,s2) W h.dc hn).mono fun _ _ ⟨T,h1,h2,h3⟩=>⟨T,h1,h2,h.left h3⟩
end
end Go.Proofs.YthfhefdfehlbkaaGreat

/-
  OplogPlays: two logs, by turns: each does what the document says, batch by batch.
  No conditions.
-/
import Derived.Test.YtfgnmnkihbgjnaaGreatSh
import Derived.Test.YtfgnmnkihbgjnaaGreatRgPlaysK
import Derived.Deep.DeepCutAuto
set_option maxRecDepth 100000
set_option maxHeartbeats 64000000
namespace Go.Proofs.YtfgnmnkihbgjnaaGreat
open Go.RowKit
theorem batch_none {L:Lg} {r s:Int} (h:batchL L r s=none):¬ (0≤r∧r<16∧1≤s∧s≤((L.row r.toNat).length:Int)):=fun hc=>by
 unfold batchL at h
 rw [if_pos hc,List.getElem?_eq_none_iff] at h
 omega
theorem batch_some {L:Lg} {r s:Int} {x:Bat} (h:batchL L r s=some x):∃ (i rn:Nat),r=(rn:Int)∧rn<16∧s=(i:Int)+1∧∃ hi:i<(L.row rn).length,(L.row rn)[i]=x:=by
 unfold batchL at h
 split at h
 ·next hc =>
  obtain ⟨h1,h2⟩:=List.getElem?_eq_some_iff.1 h
  exact ⟨s.toNat - 1,r.toNat,by omega,by omega,by omega,h1,h2⟩
 ·cases h
theorem light_sz {l:List Be} (h:light9 l=true) (e:Be) (he:e ∈ l):Szs e.x.ops∧CpSz e.x∧e.x.ops.length≤20:=by
 have hm:=light9_mem h he
 exact ⟨light_szs hm.1,⟨by have:=light_len hm.1; omega,fun y hy=>by have:=light_path hm.1 y hy; omega⟩,hm.2⟩
theorem same_yes (x:Bat) (e:Be) (w:World) (hs:Szs x.ops) (he:sameT x e.x=true) (hb:∀ W,Below w.heap.size w W→Bops W e.x e.p e.c) (W:World) (hW:Below w.heap.size w W) (p:Option Addr) (c:Nat) (h:Bops W x p c) :
  Calls Tryz.prog 17 #[.agg (btA x p c),.agg (btA e.x e.p e.c)] W fun r w'=>r=.returned (.bool true)∧Below W.heap.size W w':=by
 have h1:=r8same_any x e.x p e.p c e.c W hs h (hb W hW)
 rw [he] at h1
 exact h1
theorem oplogPlays_walk (p:Option Addr) (c:Nat) (one:List Be) (p2:Option Addr) (c2:Nat) (two:List Be) (a:Nat→Int) (n:Int) (w:World) (h:Rd w p (beCells one)) (ho:∀ e,e ∈ one→Bops w e.x e.p e.c) (h2:Rd w p2 (beCells two)) (ho2:∀ e,e ∈ two→Bops w e.x e.p e.c) :
  Calls Tryz.prog 3 #[.slice p one.length c,.slice p2 two.length c2,.agg (vecA a),.int .i64 n] w fun e w'=>e=.returned (.bool true)∧Below w.heap.size w w':=by
 have HKN:=Hi (fun W=>lgknows_any W)
 have HLI1:=Hi (fun W (hW:Below w.heap.size w W)=>light9_any p c one W (h.below hW) fun e he=>(ho e he).kept hW)
 have HLI2:=Hi (fun W (hW:Below w.heap.size w W)=>light9_any p2 c2 two W (h2.below hW) fun e he=>(ho2 e he).kept hW)
 have HB:=Hi ((Below.refl w.heap.size w).alloc (Nat.le_refl _) (.cells (vecA a) 24))
 cases hl1:light9 one with
 | false =>
  rw [hl1] at HLI1
  clear hl1 h ho h2 ho2
  go_enter Tryz.func3,Tryz.ntmps3
  go_wp2_with fail
  refine (HLI1.out _ HB.out).mono ?_
  rintro e wl1 ⟨rfl,hb⟩
  have HBL1:=Hi (HB.out.trans (hb.mono HB.out.size))
  have HWL1:=Hi hb
  clear hb
  go_wp2_with fail
  refine (HKN.out _).mono ?_
  rintro e wk ⟨rfl,hbk⟩
  have HBK:=Hi (HBL1.out.trans (hbk.mono HBL1.out.size))
  clear hbk
  go_wp2
  go_ret
  exact ⟨rfl,HBK.out⟩
 | true =>
  cases hl2:light9 two with
  | false =>
   rw [hl1] at HLI1
   rw [hl2] at HLI2
   clear hl1 hl2 h ho h2 ho2
   go_enter Tryz.func3,Tryz.ntmps3
   go_wp2_with fail
   refine (HLI1.out _ HB.out).mono ?_
   rintro e wl1 ⟨rfl,hb⟩
   have HBL1:=Hi (HB.out.trans (hb.mono HB.out.size))
   have HWL1:=Hi hb
   clear hb
   go_wp2_with fail
   refine (HLI2.out _ HBL1.out).mono ?_
   rintro e wl2 ⟨rfl,hb⟩
   have HBL2:=Hi (HBL1.out.trans (hb.mono HBL1.out.size))
   have HWL2:=Hi hb
   clear hb
   go_wp2_with fail
   refine (HKN.out _).mono ?_
   rintro e wk ⟨rfl,hbk⟩
   have HBK:=Hi (HBL2.out.trans (hbk.mono HBL2.out.size))
   clear hbk
   go_wp2
   go_ret
   exact ⟨rfl,HBK.out⟩
  | true =>
   have HSZ1:=Hi (light_sz hl1)
   have HSZ2:=Hi (light_sz hl2)
   rw [hl1] at HLI1
   rw [hl2] at HLI2
   clear hl1 hl2
   by_cases g1:one.length≤30
   ·have d1:decide (30<(one.length:Int))=false:=decide_eq_false (by omega)
    by_cases g2:two.length≤30
    ·have d2:decide (30<(two.length:Int))=false:=decide_eq_false (by omega)
     have HR1:=Hi (fun W (hW:Below w.heap.size w W)=>h.below hW)
     have HR2:=Hi (fun W (hW:Below w.heap.size w W)=>h2.below hW)
     have HOO1:=Hi (fun e he=>BopsF.ofB (ho e he))
     have HOO2:=Hi (fun e he=>BopsF.ofB (ho2 e he))
     have HN30:=Hi (And.intro g1 g2)
     clear h ho h2 ho2
     go_enter Tryz.func3,Tryz.ntmps3
     go_wp2_with fail
     refine (HLI1.out _ HB.out).mono ?_
     rintro e wl1 ⟨rfl,hb⟩
     have HBL1:=Hi (HB.out.trans (hb.mono HB.out.size))
     have HWL1:=Hi hb
     clear hb
     go_wp2_with fail
     refine (HLI2.out _ HBL1.out).mono ?_
     rintro e wl2 ⟨rfl,hb⟩
     have HBL2:=Hi (HBL1.out.trans (hb.mono HBL1.out.size))
     have HWL2:=Hi hb
     clear hb
     go_wp2_with fail
     refine (lnew_any _).mono ?_
     rintro e w3 ⟨l,S,M,m0,rfl,hlo,hlg,hl1,hl2,hb3⟩
     have HB3:=Hi (HBL2.out.trans (hb3.mono HBL2.out.size))
     go_wp2_with fail
     refine (lnew_any _).mono ?_
     rintro e w4 ⟨l2,S2,M2,m02,rfl,hlo2,hlg2,hl12,hl22,hb4⟩
     have HB4:=Hi (HB3.out.trans (hb4.mono HB3.out.size))
     have HLO1:=Hi (hlo.kept hb4)
     have HLO2:=Hi hlo2
     have HLG1:=Hi hlg
     have HLG2:=Hi hlg2
     have HZZ:=Hi (And.intro hl1 (And.intro hl2 (And.intro hl12 hl22)))
     have hz3:=hb3.size
     have hz4:=hb4.size
     have HB34:=Hi (hb3.trans (hb4.mono hb3.size))
     clear hlo hlo2 hlg hlg2 hl1 hl2 hl12 hl22 hb3 hb4
     obtain ⟨w5,hw5⟩:∃ w5,w4.alloc (.cells (rgA (fun _=>.slice none 0 0) (.slice none 0 0)) 32)=w5:=⟨_,rfl⟩
     obtain ⟨w6,hw6⟩:∃ w6,w5.alloc (.cells (rgA (fun _=>.slice none 0 0) (.slice none 0 0)) 32)=w6:=⟨_,rfl⟩
     have hs5:w5.heap.size=w4.heap.size+1:=by rw [← hw5]; simp
     have hs6:w6.heap.size=w5.heap.size+1:=by rw [← hw6]; simp
     have hb5:Below w4.heap.size w4 w5:=by rw [← hw5]; exact (Below.refl _ _).alloc (Nat.le_refl _) _
     have hb6:Below w5.heap.size w5 w6:=by rw [← hw6]; exact (Below.refl _ _).alloc (Nat.le_refl _) _
     have hr5:Rg w5 w4.heap.size Rm.zero (fun _=>False):=by rw [← hw5]; exact Rg.made _ _
     have hr6:Rg w6 w5.heap.size Rm.zero (fun _=>False):=by rw [← hw6]; exact Rg.made _ _
     rw [hs5] at hr6 hs6
     have HW56:=Hi (And.intro hw5 hw6)
     clear hw5 hw6
     obtain ⟨w1,hw1⟩:∃ w1,w.alloc (.cells (vecA a) 24)=w1:=⟨_,rfl⟩
     have HV1:=Hi (fun W (hW:Below w1.heap.size w1 W)=>(show VAt W w.heap.size a from by
      have:=VAt.new w a 24
      rw [hw1] at this
      exact this.kept hW))
     have HBX1:=Hi (show Below w.heap.size w w1 from by rw [← hw1]; exact HB.out)
     have HBW1:=Hi (show Below w1.heap.size w1 wl2 from by rw [← hw1]; exact HWL1.out.trans (HWL2.out.mono HWL1.out.size))
     have HP6:=Hi (show Pl w1 l S M w4.heap.size l2 S2 M2 (w4.heap.size+1) 0 0 m0 Rm.zero m02 Rm.zero (fun j=>wl2.heap.size≤j∧j<w3.heap.size) (fun j=>j=w4.heap.size) (fun j=>w3.heap.size≤j∧j<w4.heap.size) (fun j=>j=w4.heap.size+1) w6 from by
      have h0:=HZZ.out
      have hq:w1.heap.size≤wl2.heap.size:=HBW1.out.size
      refine ⟨Duo.made ((HLO1.out.kept hb5).kept hb6) HLG1.out (fun j hj=>⟨hj.1,hj.2.1⟩) ⟨by omega,by omega⟩ (hr5.kept hb6) (fun hj=>by omega) (fun j hj=>by omega),Duo.made ((HLO2.out.kept hb5).kept hb6) HLG2.out (fun j hj=>⟨hj.1,hj.2.1⟩) ⟨by omega,by omega⟩ hr6 (fun hj=>by omega) (fun j hj=>by omega),fun j h1 h2=>by omega,fun j hj=>by omega,?_⟩
      exact ((HBW1.out.trans (HB34.out.mono hq)).trans (hb5.mono (by omega))).trans (hb6.mono (by omega)))
     clear hb5 hb6 hr5 hr6 HLO1 HLO2 HLG1 HLG2 HZZ HB34
     go_wp2_with fail
     refine (HKN.out _).mono ?_
     rintro e w7 ⟨rfl,hb7⟩
     have hb7':Below w6.heap.size w6 w7:=by rw [← HW56.out.2,← HW56.out.1]; exact hb7
     have HP7:=Hi (HP6.out.kept hb7')
     clear hb7 hb7' HP6 HW56 hs5 hs6
     have hn30:=HN30.out
     generalize (fun j=>wl2.heap.size≤j∧j<w3.heap.size)=A0 at *
     generalize (fun j=>w3.heap.size≤j∧j<w4.heap.size)=A20 at *
     generalize (fun j=>j=w4.heap.size)=Q0 at *
     generalize (fun j=>j=w4.heap.size+1)=Q20 at *
     generalize w4.heap.size+1=R2 at *
     generalize w4.heap.size=R at *
     go_wp2
     go_loopw [13] (fun i wr=>∃ (k:Nat) (m:Sm) (d:Rm) (m2:Sm) (d2:Rm) (A Q A2 Q2:Nat→Prop),k≤30∧i=.int .i64 (k:Int)∧Pl w1 l S M R l2 S2 M2 R2 k k m d m2 d2 A Q A2 Q2 wr) (fun i _=>30 - (intOf i).toNat)
     case atStart=>exact ⟨0,m0,Rm.zero,m02,Rm.zero,_,_,_,_,by omega,rfl,HP7.out⟩
     case round =>
      clear HP7
      obtain ⟨k,m,d,m2,d2,A,Q,A2,Q2,hk30,rfl,hT⟩:=hrel
      have T:=Hi hT
      clear hT
      have hk30b:=hk30
      by_cases hk1:k<one.length
      ·have hdk1:decide ((k:Int)<(one.length:Int))=true:=decide_eq_true (by omega)
       obtain ⟨F,hF,hFA⟩:=T.out.one.lo
       obtain ⟨E,hE,hEQ⟩:=T.out.one.rg
       have HFA:=Hi hFA
       have HEQ:=Hi hEQ
       have HLO:=Hi hF
       have HRG:=Hi hE
       clear hF hE hFA hEQ
       have HBX:=Hi (HBX1.out.trans (T.out.bel.mono HBX1.out.size))
       have HKL:=Hi hk1
       obtain ⟨b1,q1,rfl,-⟩:=(HR1.out _ HBX.out).addr (by rw [beCells_length]; omega)
       have HSZ:=Hi (HSZ1.out _ (beOf_mem hk1))
       have HOO:=Hi (HOO1.out _ (beOf_mem hk1))
       go_wp2_with fail
       refine (lclone_any wr HLO.out).mono ?_
       rintro e wc1 ⟨lc,Sc,Mc,mc,rfl,hlc,hrc,hwc,hlc1,hlc2,hbc⟩
       have TC:=Hi (T.out.kept hbc)
       have HLCF:=Hi (fun j (hj:wr.heap.size≤j∧j<wc1.heap.size∧j≠lc)=>hj.1)
       have HLTW:=Hi (fun j (hj:A j)=>T.out.one.ltA j hj)
       have HLTQ:=Hi (fun j (hj:Q j)=>T.out.one.ltQ j hj)
       have HLC:=Hi hlc
       have HRC:=Hi hrc
       have HLCB:=Hi (And.intro hlc1 hlc2)
       have HZC:=Hi hbc.size
       replace HLO:=Hi (HLO.out.kept hbc)
       replace HRG:=Hi (HRG.out.kept hbc)
       have HBC:=Hi (HBX.out.trans (hbc.mono HBX.out.size))
       have HRD:=Hi (HR1.out _ HBC.out)
       clear hlc hrc hwc hlc1 hlc2 hbc
       have HOWN:=Hi (bown_any (beOf one k).x (beOf one k).p (beOf one k).c wc1 (HOO.out.bops.kept HBC.out) HSZ.out.2.1.1 HSZ.out.2.1.2)
       generalize hxk:beOf one k=xe at *
       have HXK:=Hi hxk
       clear hxk
       obtain ⟨x,px,cx⟩:=xe
       dsimp only at *
       go_wp2_with (refine wpList_load_be btR rfl _ rfl b1 q1 k rfl one HRD.out HKL.out ?_; rw [HXK.out])
       refine HOWN.out.mono ?_
       rintro e wo ⟨pw,cw,rfl,hpw,hbo⟩
       have TO:=Hi (TC.out.kept hbo)
       have HLO2:=Hi (HLO.out.kept hbo)
       have HRG2:=Hi (HRG.out.kept hbo)
       have HBO:=Hi (HBC.out.trans (hbo.mono HBC.out.size))
       have HZO:=Hi hbo.size
       have HLC2:=Hi (HLC.out.kept hbo)
       have HADD:=Hi (ladd_any x pw cw wo HLO2.out HSZ.out.1 HSZ.out.2.1 hpw.bops)
       clear hpw hbo HLO HRG
       go_wp2_with fail
       refine HADD.out.mono ?_
       rintro e wa ⟨m',pa,ca,n1,la,rfl,hlo',hlg',hla,hrow,hn0,hn1,ht1⟩
       have HLO3:=Hi hlo'
       have HLG3:=Hi hlg'
       have HLA:=Hi hla
       have HROW:=Hi hrow
       have HN:=Hi (And.intro hn0 hn1)
       have HT1:=Hi ht1
       have HOKA:=Hi (show LgOk (addL m.lg x).1 from by rw [← hlg']; exact hlo'.ok)
       have HGE:=Hi (fun j (hj:F j)=>TO.out.ge j (Or.inl (Or.inl (HFA.out j hj))))
       have HBA:=Hi (show Below w.heap.size w wa from HBO.out.trans (ht1.below (fun j _ hj=>by have:=HGE.out j hj; have:=HBX1.out.size; omega) HBO.out.size))
       have HRG3:=Hi (Duo.rgAt TO.out.one HRG2.out HEQ.out ht1 HFA.out)
       have HRD2:=Hi (HR1.out _ HBA.out)
       have HRA:=Hi (show Calls Tryz.prog 11 #[.pointer (some ⟨R,0,none⟩),.agg (btA x px cx)] wa (fun e w'=>∃ (d':Rm) (G:Nat→Prop) (po:Option Addr) (co:Nat) (lo:List Be),e=.returned (.tuple #[.slice po lo.length co,.int .i64 (addL m.lg x).2.2])∧Rg w' R d' G∧d'.lg=(addL d.lg x).1∧lo.map (·.x)=(addL m.lg x).2.1∧Rd w' po (beCells lo)∧(∀ e,e ∈ lo→Bops w' e.x e.p e.c)∧Turns (fun k=>k=R∨d.wv.ownBlock=some k) wa w'∧(∀ k,G k→E k∨wa.heap.size≤k)∧(∀ k,d'.wv.ownBlock=some k→d.wv.ownBlock=some k∨wa.heap.size≤k)) from by
        have h1:=rgadd_any x px cx wa HRG3.out TO.out.one.okd.1 TO.out.one.okd.2 HSZ.out.1 HSZ.out.2.1 ((HOO.out.below HBA.out).mono fun j _ hj=>⟨fun e=>by have:=TO.out.ge R (Or.inl (Or.inr TO.out.one.qR)); have:=HBX1.out.size; have hj2:j<w.heap.size:=hj; omega,fun e=>by have:=TO.out.ge j (Or.inl (Or.inr (TO.out.one.qW j e))); have:=HBX1.out.size; have hj2:j<w.heap.size:=hj; omega⟩)
        unfold RAdded at h1
        have h2:=TO.out.one.lg
        refine h1.mono ?_
        rintro e w' ⟨d',G,po,co,lo,e1,e2,e3,e4,e5⟩
        rw [h2] at e1 e4
        exact ⟨d',G,po,co,lo,e1,e2,e3,e4,e5⟩)
       clear hlo' hlg' hla hrow hn0 hn1 ht1 HADD
       generalize hcode:(addL m.lg x).2.2=code at *
       clear hcode
       go_wp2_with (refine wpList_load_be btR rfl _ rfl b1 q1 k rfl one HRD2.out HKL.out ?_; rw [HXK.out])
       refine HRA.out.mono ?_
       rintro e wb ⟨d',E',pb,cb,lb,rfl,hrg',hdg,hlb,hrdb,hbob,ht2,hE',hW'⟩
       have HD:=Hi (Duo.both TO.out.one HFA.out HEQ.out (fun hr=>⟨hr,HSZ.out.1,HSZ.out.2.1⟩) HSZ.out.2.2 HLO3.out (fun _ h=>h) HLG3.out HN.out.2 HT1.out hrg' hdg ht2 hE' hW')
       have HT2:=Hi ht2
       have HTQ:=Hi (fun j (hj:j=R∨d.wv.ownBlock=some j)=>hj.elim (fun e=>by rw [e]; exact TO.out.one.qR) (TO.out.one.qW j))
       have HPL:=Hi (show Pl w1 l S M R l2 S2 M2 R2 (k+1) k m' d' m2 d2 (fun j=>A j∨(wo.heap.size≤j∧j<n1)) (fun j=>Q j∨(wa.heap.size≤j∧j<wb.heap.size)) A2 Q2 wb from TO.out.first HD.out ((HT1.out.mono fun j _ hj=>Or.inl (HFA.out j hj)).trans (ht2.mono fun j _ hj=>Or.inl (Or.inr (HTQ.out j hj)))) (fun j hj=>hj.imp id fun h=>h.1) (fun j hj=>hj.imp id fun h=>Nat.le_trans (Nat.le_trans HN.out.1 HN.out.2) h.1))
       have HROWB:=Hi (HROW.out.turns ht2 (fun j hj=>by have:=TO.out.one.ltQ j (HTQ.out j hj); have:=HN.out; omega))
       have HALK:=Hi (alike_any pa pb ca cb la lb wb HROWB.out.1.rd.1 (fun e he=>(HROWB.out.1.ops e he).bops) hrdb hbob (by rw [HLA.out,hlb]) (fun e he=>by
        have:=addL_ops HOKA.out (y:=e.x) (by rw [← HLA.out]; exact List.mem_map.2 ⟨e,he,rfl⟩)
        exact ⟨this.1.szs,this.1.cp⟩) (by have h1:=congrArg List.length HLA.out; have h2:=addL_few HOKA.out; rw [List.length_map] at h1; omega))
       have HLC3:=Hi ((HLC2.out.turns HT1.out (fun j hj h=>by have:=HLCF.out j hj; have:=TO.out.one.ltA j (HFA.out j h); have:=HLTW.out j (HFA.out j h); omega) (fun h=>by have:=HLCB.out.1; have:=HLTW.out _ (HFA.out _ h); omega)).turns ht2 (fun j hj h=>by have:=HLCF.out j hj; have:=HLTQ.out j (HTQ.out j h); omega) (fun h=>by have:=HLCB.out.1; have:=HLTQ.out _ (HTQ.out _ h); omega))
       have HLB3:=Hi (HLO3.out.turns ht2 (fun j hj h=>HD.out.apart j (hj.imp (HFA.out j) id) (Or.inl (HTQ.out j h))) (fun h=>HD.out.apart l (Or.inl TO.out.one.al) (Or.inl (HTQ.out l h))))
       clear hrg' hdg hlb hrdb hbob ht2 hE' hW' HRA
       go_wp2_with fail
       refine HALK.out.mono ?_
       rintro e wd ⟨rfl,hbd⟩
       have HPD:=Hi (HPL.out.kept hbd)
       have HROWD:=Hi (HROWB.out.kept hbd)
       have HLC4:=Hi (HLC3.out.kept hbd)
       have HLD4:=Hi (HLB3.out.kept hbd)
       have HZD:=Hi hbd.size
       have HTD:=Hi (HT2.out.trans (Turns.of_below hbd))
       clear hbd HALK
       go_wp2_with fail
       refine (lgnum_any _ _).mono ?_
       rintro e we ⟨rfl,rfl⟩
       have HTC:=Hi (ltotal_any wd HLC4.out)
       have HTL:=Hi (fun W (hW:Below wd.heap.size wd W)=>ltotal_any W (HLD4.out.kept hW))
       have HTE:=Hi (show totL mc.lg=totL m.lg from by
        rw [HLC4.out.ok.totL,T.out.one.ok.totL]
        exact sum_congr (fun r hr=>(HRC.out r hr).symm) 16 (Nat.le_refl _))
       have HTT:=Hi (show totL m.lg≤totL m'.lg from by
        have h1:=(addL_vec m.lg x T.out.one.ok HOKA.out).2
        rw [← HLG3.out] at h1
        omega)
       rw [HTE.out] at HTC
       have hdt:decide (totL m'.lg<totL m.lg)=false:=decide_eq_false (by have:=HTT.out; omega)
       go_wp2_with fail
       refine HTC.out.mono ?_
       rintro e wf ⟨rfl,hbf⟩
       have HPF:=Hi (HPD.out.kept hbf)
       have HRF:=Hi (HROWD.out.kept hbf)
       have HTF:=Hi (HTD.out.trans (Turns.of_below hbf))
       have HTL2:=Hi (HTL.out _ hbf)
       clear hbf
       go_wp2_with fail
       refine HTL2.out.mono ?_
       rintro e wg ⟨rfl,hbg⟩
       have HPG:=Hi (HPF.out.kept hbg)
       have HRGG:=Hi (HRF.out.kept hbg)
       have HTG:=Hi (HTF.out.trans (Turns.of_below hbg))
       clear hbg HTC HTL HTL2
       have HOPZ:=Hi (show ∀ e,e ∈ la→BopsF (fun j=>n1≤j∧j<wa.heap.size∧(Value.slice pa la.length ca).ownBlock≠some j) wg e.x e.p e.c from fun e he =>
        ((HROW.out.1.ops e he).mono (G:=fun j=>n1≤j∧j<wa.heap.size∧(Value.slice pa la.length ca).ownBlock≠some j) fun j hj h=>⟨h.1,hj,h.2⟩).turns HTG.out fun j hj h=>by
         have:=TO.out.one.ltQ j (HTQ.out j h)
         have:=HN.out
         omega)
       have HPOS:=Hi (show ∀ e,e ∈ la→0<e.x.ops.length from fun e he=>(addL_ops HOKA.out (y:=e.x) (by rw [← HLA.out]; exact List.mem_map.2 ⟨e,he,rfl⟩)).2)
       have HSCR:=Hi (Scr.start HOPZ.out HRGG.out.2 HPOS.out)
       have HRDA:=Hi HRGG.out.1.rd.1
       have HFEW:=Hi (show la.length≤512 from by have h1:=congrArg List.length HLA.out; have h2:=addL_few HOKA.out; rw [List.length_map] at h1; omega)
       have HOA:=Hi (show ∀ b,pa=some b→(Value.slice pa la.length ca).ownBlock=some b.block∧b=⟨b.block,0,none⟩ from fun b hb=>by
        obtain ⟨p2,c2,e2,-,-,-,-,h4⟩:=own_rd HRGG.out.1.own
        exact ⟨by
             obtain ⟨rfl,rfl⟩:pa=p2∧ca=c2:=by cases e2; exact ⟨rfl,rfl⟩
             exact (h4 b hb).2.2.1,by
                          obtain ⟨rfl,rfl⟩:pa=p2∧ca=c2:=by cases e2; exact ⟨rfl,rfl⟩
                          exact (h4 b hb).2.2.2⟩)
       have HPLS:=Hi (fun W (hs:Turns (fun j=>n1≤j∧j<wa.heap.size∧(Value.slice pa la.length ca).ownBlock≠some j) wg W)=>HPG.out.turns hs (fun j hj=>⟨by
         have:=TO.out.bel.size
         have:=HN.out
         omega,fun h=>by
         have h0:=HN.out
         rcases h with (h | h) | h | h
         ·rcases h with h | h
          ·have:=TO.out.one.ltA j h; omega
          ·omega
         ·rcases h with h | h
          ·have:=TO.out.one.ltQ j h; omega
          ·omega
         ·have:=TO.out.two.ltA j h; omega
         ·have:=TO.out.two.ltQ j h; omega⟩))
       clear HTG HTF HTD HROW HROWB HROWD HRF HLC HLC2 HLC3 HLC4 HLD4 HLB3 HLO3 HRG2 HRG3 HT1 HT2 HD HOWN HRD2 HRD TC HPL HPD HPF HLO2 HTE HTT HRC
       go_wp2
       go_loopw [19] (fun i wr=>∃ j:Nat,j≤la.length∧i=.int .i64 (j:Int)∧Scr (fun j=>n1≤j∧j<wa.heap.size∧(Value.slice pa la.length ca).ownBlock≠some j) la wg wr) (fun i _=>la.length - (intOf i).toNat)
       case atStart=>exact ⟨0,Nat.zero_le _,rfl,HSCR.out⟩
       case round =>
        clear HSCR
        obtain ⟨j,hj,rfl,hsc⟩:=hrel
        have HSC:=Hi hsc
        have hfew:=HFEW.out
        clear hsc
        by_cases hjl:j<la.length
        ·have hd0:decide ((j:Int)<(la.length:Int))=true:=decide_eq_true (by omega)
         have HRDJ:=Hi (HSC.out.turns.rd HRDA.out (fun b hb hz=>hz.2.2 (HOA.out b hb).1))
         obtain ⟨ga,oa,hga,-⟩:=HRDJ.out.addr (by rw [beCells_length]; omega)
         have hoa:=(HOA.out _ hga).2
         simp only [Addr.mk.injEq,and_true,true_and] at hoa
         subst hoa
         have hrj:=HRDJ.out
         rw [hga] at hrj
         have y3:=hrj.be j hjl 3 _ rfl
         rw [Nat.zero_add] at y3
         obtain ⟨bz,oz,uz,hez,hzz,hcz,hfz⟩:=HSC.out.each _ (beOf_mem hjl)
         rw [hez] at y3
         have hpz:=HPOS.out _ (beOf_mem hjl)
         have hpz2:(0:Int)<((beOf la j).x.ops.length:Int):=by omega
         have hjj:(j:Int)<(la.length:Int):=by omega
         have HSN:=Hi (HSC.out.step (v:=.int .i64 99) hzz hcz)
         generalize (beOf la j).x.ops.length=zl at *
         generalize (beOf la j).c=zc at *
         have HGA:=Hi hga
         rw [hga]
         clear hga hrj hez hzz
         go_wp2
         go_roundw
         case rel=>exact ⟨j+1,by omega,by go_num,by have h:=HSN.out; rw [HGA.out] at h; exact h⟩
         case measure=>simp [intOf]; omega
        ·obtain rfl:j=la.length:=by omega
         have hd0:decide ((la.length:Int)<(la.length:Int))=false:=decide_eq_false (by omega)
         have HPZ:=Hi (HPLS.out wr HSC.out.turns)
         clear HPLS HSC HPG HRDA HOA HPOS HOPZ HFEW
         by_cases hk2:k<two.length
         ·have hdk2:decide ((k:Int)<(two.length:Int))=true:=decide_eq_true (by omega)
          generalize hAX:(fun j=>A j∨(wo.heap.size≤j∧j<n1))=AX at *
          generalize hQX:(fun j=>Q j∨(wa.heap.size≤j∧j<wb.heap.size))=QX at *
          have T2:=Hi HPZ.out
          clear HPZ hAX hQX T TO HFA HEQ HRGG HSZ HOO HKL HXK HLA HLG3 HOKA HN HTQ HGE HBA HBO HBC HBX HZO HZC HZD HLCF HLTW HLTQ HLCB
          obtain ⟨F,hF,hFA⟩:=T2.out.two.lo
          obtain ⟨E,hE,hEQ⟩:=T2.out.two.rg
          have HFA:=Hi hFA
          have HEQ:=Hi hEQ
          have HLO:=Hi hF
          have HRG:=Hi hE
          clear hF hE hFA hEQ
          have HBX:=Hi (HBX1.out.trans (T2.out.bel.mono HBX1.out.size))
          have HKL:=Hi hk2
          obtain ⟨b2,q2,rfl,-⟩:=(HR2.out _ HBX.out).addr (by rw [beCells_length]; omega)
          have HSZ:=Hi (HSZ2.out _ (beOf_mem hk2))
          have HOO:=Hi (HOO2.out _ (beOf_mem hk2))
          obtain ⟨wc1,hwc1⟩:∃ wc1,wc1=wr:=⟨_,rfl⟩
          subst hwc1
          have TC:=Hi T2.out
          have HBC:=Hi HBX.out
          have HRD:=Hi (HR2.out _ HBC.out)
          have HOWN:=Hi (bown_any (beOf two k).x (beOf two k).p (beOf two k).c wc1 (HOO.out.bops.kept HBC.out) HSZ.out.2.1.1 HSZ.out.2.1.2)
          generalize hxk:beOf two k=xe at *
          have HXK:=Hi hxk
          clear hxk
          obtain ⟨x,px,cx⟩:=xe
          dsimp only at *
          go_wp2_with (refine wpList_load_be btR rfl _ rfl b2 q2 k rfl two HRD.out HKL.out ?_; rw [HXK.out])
          refine HOWN.out.mono ?_
          rintro e wo ⟨pw,cw,rfl,hpw,hbo⟩
          have TO:=Hi (TC.out.kept hbo)
          have HLO2:=Hi (HLO.out.kept hbo)
          have HRG2:=Hi (HRG.out.kept hbo)
          have HBO:=Hi (HBC.out.trans (hbo.mono HBC.out.size))
          have HZO:=Hi hbo.size
          have HADD:=Hi (ladd_any x pw cw wo HLO2.out HSZ.out.1 HSZ.out.2.1 hpw.bops)
          clear hpw hbo HLO HRG
          go_wp2_with fail
          refine HADD.out.mono ?_
          rintro e wa ⟨my,pa,ca,n1,la,rfl,hlo',hlg',hla,hrow,hn0,hn1,ht1⟩
          have HLO3:=Hi hlo'
          have HLG3:=Hi hlg'
          have HLA:=Hi hla
          have HROW:=Hi hrow
          have HN:=Hi (And.intro hn0 hn1)
          have HT1:=Hi ht1
          have HOKA:=Hi (show LgOk (addL m2.lg x).1 from by rw [← hlg']; exact hlo'.ok)
          have HGE:=Hi (fun j (hj:F j)=>TO.out.ge j (Or.inr (Or.inl (HFA.out j hj))))
          have HBA:=Hi (show Below w.heap.size w wa from HBO.out.trans (ht1.below (fun j _ hj=>by have:=HGE.out j hj; have:=HBX1.out.size; omega) HBO.out.size))
          have HRG3:=Hi (Duo.rgAt TO.out.two HRG2.out HEQ.out ht1 HFA.out)
          have HRD2:=Hi (HR2.out _ HBA.out)
          have HRA:=Hi (show Calls Tryz.prog 11 #[.pointer (some ⟨R2,0,none⟩),.agg (btA x px cx)] wa (fun e w'=>∃ (d':Rm) (G:Nat→Prop) (po:Option Addr) (co:Nat) (lo:List Be),e=.returned (.tuple #[.slice po lo.length co,.int .i64 (addL m2.lg x).2.2])∧Rg w' R2 d' G∧d'.lg=(addL d2.lg x).1∧lo.map (·.x)=(addL m2.lg x).2.1∧Rd w' po (beCells lo)∧(∀ e,e ∈ lo→Bops w' e.x e.p e.c)∧Turns (fun k=>k=R2∨d2.wv.ownBlock=some k) wa w'∧(∀ k,G k→E k∨wa.heap.size≤k)∧(∀ k,d'.wv.ownBlock=some k→d2.wv.ownBlock=some k∨wa.heap.size≤k)) from by
           have h1:=rgadd_any x px cx wa HRG3.out TO.out.two.okd.1 TO.out.two.okd.2 HSZ.out.1 HSZ.out.2.1 ((HOO.out.below HBA.out).mono fun j _ hj=>⟨fun e=>by have:=TO.out.ge R2 (Or.inr (Or.inr TO.out.two.qR)); have:=HBX1.out.size; have hj2:j<w.heap.size:=hj; omega,fun e=>by have:=TO.out.ge j (Or.inr (Or.inr (TO.out.two.qW j e))); have:=HBX1.out.size; have hj2:j<w.heap.size:=hj; omega⟩)
           unfold RAdded at h1
           have h2:=TO.out.two.lg
           refine h1.mono ?_
           rintro e w' ⟨d',G,po,co,lo,e1,e2,e3,e4,e5⟩
           rw [h2] at e1 e4
           exact ⟨d',G,po,co,lo,e1,e2,e3,e4,e5⟩)
          clear hlo' hlg' hla hrow hn0 hn1 ht1 HADD
          generalize hcode:(addL m2.lg x).2.2=code at *
          clear hcode
          go_wp2_with (refine wpList_load_be btR rfl _ rfl b2 q2 k rfl two HRD2.out HKL.out ?_; rw [HXK.out])
          refine HRA.out.mono ?_
          rintro e wb ⟨dy,E',pb,cb,lb,rfl,hrg',hdg,hlb,hrdb,hbob,ht2,hE',hW'⟩
          have HD:=Hi (Duo.both TO.out.two HFA.out HEQ.out (fun hr=>⟨hr,HSZ.out.1,HSZ.out.2.1⟩) HSZ.out.2.2 HLO3.out (fun _ h=>h) HLG3.out HN.out.2 HT1.out hrg' hdg ht2 hE' hW')
          have HT2:=Hi ht2
          have HTQ:=Hi (fun j (hj:j=R2∨d2.wv.ownBlock=some j)=>hj.elim (fun e=>by rw [e]; exact TO.out.two.qR) (TO.out.two.qW j))
          have HPL:=Hi (show Pl w1 l S M R l2 S2 M2 R2 (k+1) (k+1) m' d' my dy AX QX (fun j=>A2 j∨(wo.heap.size≤j∧j<n1)) (fun j=>Q2 j∨(wa.heap.size≤j∧j<wb.heap.size)) wb from TO.out.second HD.out ((HT1.out.mono fun j _ hj=>Or.inl (HFA.out j hj)).trans (ht2.mono fun j _ hj=>Or.inl (Or.inr (HTQ.out j hj)))) (fun j hj=>hj.imp id fun h=>h.1) (fun j hj=>hj.imp id fun h=>Nat.le_trans (Nat.le_trans HN.out.1 HN.out.2) h.1))
          have HROWB:=Hi (HROW.out.turns ht2 (fun j hj=>by have:=TO.out.two.ltQ j (HTQ.out j hj); have:=HN.out; omega))
          have HALK:=Hi (alike_any pa pb ca cb la lb wb HROWB.out.1.rd.1 (fun e he=>(HROWB.out.1.ops e he).bops) hrdb hbob (by rw [HLA.out,hlb]) (fun e he=>by
           have:=addL_ops HOKA.out (y:=e.x) (by rw [← HLA.out]; exact List.mem_map.2 ⟨e,he,rfl⟩)
           exact ⟨this.1.szs,this.1.cp⟩) (by have h1:=congrArg List.length HLA.out; have h2:=addL_few HOKA.out; rw [List.length_map] at h1; omega))
          clear hrg' hdg hlb hrdb hbob ht2 hE' hW' HRA
          go_wp2_with fail
          refine HALK.out.mono ?_
          rintro e wd ⟨rfl,hbd⟩
          have HPD:=Hi (HPL.out.kept hbd)
          clear hbd HALK
          go_wp2_with fail
          refine (lgnum_any _ _).mono ?_
          rintro e we ⟨rfl,rfl⟩
          have HPE:=Hi (HPD.out.more (k':=k+1) (k2':=k+1) (Nat.le_refl _) (Nat.le_refl _))
          go_wp2
          go_roundw
          case rel=>exact ⟨k+1,_,_,_,_,_,_,_,_,by omega,by go_num,HPE.out⟩
          case measure=>simp [intOf]; omega
         ·have hdk2:decide ((k:Int)<(two.length:Int))=false:=decide_eq_false (by omega)
          have HPZ2:=Hi (HPZ.out.more (k':=k+1) (k2':=k+1) (Nat.le_refl _) (Nat.le_succ k))
          go_wp2
          go_roundw
          case rel=>exact ⟨k+1,_,_,_,_,_,_,_,_,by omega,by go_num,HPZ2.out⟩
          case measure=>simp [intOf]; omega
      ·have hdk1:decide ((k:Int)<(one.length:Int))=false:=decide_eq_false (by omega)
       by_cases hk2:k<two.length
       ·have hdk2:decide ((k:Int)<(two.length:Int))=true:=decide_eq_true (by omega)
        obtain ⟨F,hF,hFA⟩:=T.out.two.lo
        obtain ⟨E,hE,hEQ⟩:=T.out.two.rg
        have HFA:=Hi hFA
        have HEQ:=Hi hEQ
        have HLO:=Hi hF
        have HRG:=Hi hE
        clear hF hE hFA hEQ
        have HBX:=Hi (HBX1.out.trans (T.out.bel.mono HBX1.out.size))
        have HKL:=Hi hk2
        obtain ⟨b2,q2,rfl,-⟩:=(HR2.out _ HBX.out).addr (by rw [beCells_length]; omega)
        have HSZ:=Hi (HSZ2.out _ (beOf_mem hk2))
        have HOO:=Hi (HOO2.out _ (beOf_mem hk2))
        obtain ⟨wc1,hwc1⟩:∃ wc1,wc1=wr:=⟨_,rfl⟩
        subst hwc1
        have TC:=Hi T.out
        have HBC:=Hi HBX.out
        have HRD:=Hi (HR2.out _ HBC.out)
        have HOWN:=Hi (bown_any (beOf two k).x (beOf two k).p (beOf two k).c wc1 (HOO.out.bops.kept HBC.out) HSZ.out.2.1.1 HSZ.out.2.1.2)
        generalize hxk:beOf two k=xe at *
        have HXK:=Hi hxk
        clear hxk
        obtain ⟨x,px,cx⟩:=xe
        dsimp only at *
        go_wp2_with (refine wpList_load_be btR rfl _ rfl b2 q2 k rfl two HRD.out HKL.out ?_; rw [HXK.out])
        refine HOWN.out.mono ?_
        rintro e wo ⟨pw,cw,rfl,hpw,hbo⟩
        have TO:=Hi (TC.out.kept hbo)
        have HLO2:=Hi (HLO.out.kept hbo)
        have HRG2:=Hi (HRG.out.kept hbo)
        have HBO:=Hi (HBC.out.trans (hbo.mono HBC.out.size))
        have HZO:=Hi hbo.size
        have HADD:=Hi (ladd_any x pw cw wo HLO2.out HSZ.out.1 HSZ.out.2.1 hpw.bops)
        clear hpw hbo HLO HRG
        go_wp2_with fail
        refine HADD.out.mono ?_
        rintro e wa ⟨my,pa,ca,n1,la,rfl,hlo',hlg',hla,hrow,hn0,hn1,ht1⟩
        have HLO3:=Hi hlo'
        have HLG3:=Hi hlg'
        have HLA:=Hi hla
        have HROW:=Hi hrow
        have HN:=Hi (And.intro hn0 hn1)
        have HT1:=Hi ht1
        have HOKA:=Hi (show LgOk (addL m2.lg x).1 from by rw [← hlg']; exact hlo'.ok)
        have HGE:=Hi (fun j (hj:F j)=>TO.out.ge j (Or.inr (Or.inl (HFA.out j hj))))
        have HBA:=Hi (show Below w.heap.size w wa from HBO.out.trans (ht1.below (fun j _ hj=>by have:=HGE.out j hj; have:=HBX1.out.size; omega) HBO.out.size))
        have HRG3:=Hi (Duo.rgAt TO.out.two HRG2.out HEQ.out ht1 HFA.out)
        have HRD2:=Hi (HR2.out _ HBA.out)
        have HRA:=Hi (show Calls Tryz.prog 11 #[.pointer (some ⟨R2,0,none⟩),.agg (btA x px cx)] wa (fun e w'=>∃ (d':Rm) (G:Nat→Prop) (po:Option Addr) (co:Nat) (lo:List Be),e=.returned (.tuple #[.slice po lo.length co,.int .i64 (addL m2.lg x).2.2])∧Rg w' R2 d' G∧d'.lg=(addL d2.lg x).1∧lo.map (·.x)=(addL m2.lg x).2.1∧Rd w' po (beCells lo)∧(∀ e,e ∈ lo→Bops w' e.x e.p e.c)∧Turns (fun k=>k=R2∨d2.wv.ownBlock=some k) wa w'∧(∀ k,G k→E k∨wa.heap.size≤k)∧(∀ k,d'.wv.ownBlock=some k→d2.wv.ownBlock=some k∨wa.heap.size≤k)) from by
         have h1:=rgadd_any x px cx wa HRG3.out TO.out.two.okd.1 TO.out.two.okd.2 HSZ.out.1 HSZ.out.2.1 ((HOO.out.below HBA.out).mono fun j _ hj=>⟨fun e=>by have:=TO.out.ge R2 (Or.inr (Or.inr TO.out.two.qR)); have:=HBX1.out.size; have hj2:j<w.heap.size:=hj; omega,fun e=>by have:=TO.out.ge j (Or.inr (Or.inr (TO.out.two.qW j e))); have:=HBX1.out.size; have hj2:j<w.heap.size:=hj; omega⟩)
         unfold RAdded at h1
         have h2:=TO.out.two.lg
         refine h1.mono ?_
         rintro e w' ⟨d',G,po,co,lo,e1,e2,e3,e4,e5⟩
         rw [h2] at e1 e4
         exact ⟨d',G,po,co,lo,e1,e2,e3,e4,e5⟩)
        clear hlo' hlg' hla hrow hn0 hn1 ht1 HADD
        generalize hcode:(addL m2.lg x).2.2=code at *
        clear hcode
        go_wp2_with (refine wpList_load_be btR rfl _ rfl b2 q2 k rfl two HRD2.out HKL.out ?_; rw [HXK.out])
        refine HRA.out.mono ?_
        rintro e wb ⟨dy,E',pb,cb,lb,rfl,hrg',hdg,hlb,hrdb,hbob,ht2,hE',hW'⟩
        have HD:=Hi (Duo.both TO.out.two HFA.out HEQ.out (fun hr=>⟨hr,HSZ.out.1,HSZ.out.2.1⟩) HSZ.out.2.2 HLO3.out (fun _ h=>h) HLG3.out HN.out.2 HT1.out hrg' hdg ht2 hE' hW')
        have HT2:=Hi ht2
        have HTQ:=Hi (fun j (hj:j=R2∨d2.wv.ownBlock=some j)=>hj.elim (fun e=>by rw [e]; exact TO.out.two.qR) (TO.out.two.qW j))
        have HPL:=Hi (show Pl w1 l S M R l2 S2 M2 R2 k (k+1) m d my dy A Q (fun j=>A2 j∨(wo.heap.size≤j∧j<n1)) (fun j=>Q2 j∨(wa.heap.size≤j∧j<wb.heap.size)) wb from TO.out.second HD.out ((HT1.out.mono fun j _ hj=>Or.inl (HFA.out j hj)).trans (ht2.mono fun j _ hj=>Or.inl (Or.inr (HTQ.out j hj)))) (fun j hj=>hj.imp id fun h=>h.1) (fun j hj=>hj.imp id fun h=>Nat.le_trans (Nat.le_trans HN.out.1 HN.out.2) h.1))
        have HROWB:=Hi (HROW.out.turns ht2 (fun j hj=>by have:=TO.out.two.ltQ j (HTQ.out j hj); have:=HN.out; omega))
        have HALK:=Hi (alike_any pa pb ca cb la lb wb HROWB.out.1.rd.1 (fun e he=>(HROWB.out.1.ops e he).bops) hrdb hbob (by rw [HLA.out,hlb]) (fun e he=>by
         have:=addL_ops HOKA.out (y:=e.x) (by rw [← HLA.out]; exact List.mem_map.2 ⟨e,he,rfl⟩)
         exact ⟨this.1.szs,this.1.cp⟩) (by have h1:=congrArg List.length HLA.out; have h2:=addL_few HOKA.out; rw [List.length_map] at h1; omega))
        clear hrg' hdg hlb hrdb hbob ht2 hE' hW' HRA
        go_wp2_with fail
        refine HALK.out.mono ?_
        rintro e wd ⟨rfl,hbd⟩
        have HPD:=Hi (HPL.out.kept hbd)
        clear hbd HALK
        go_wp2_with fail
        refine (lgnum_any _ _).mono ?_
        rintro e we ⟨rfl,rfl⟩
        have HPE:=Hi (HPD.out.more (k':=k+1) (k2':=k+1) (Nat.le_succ k) (Nat.le_refl _))
        go_wp2
        go_roundw
        case rel=>exact ⟨k+1,_,_,_,_,_,_,_,_,by omega,by go_num,HPE.out⟩
        case measure=>simp [intOf]; omega
       ·have hdk2:decide ((k:Int)<(two.length:Int))=false:=decide_eq_false (by omega)
        obtain ⟨F,hF,hFA⟩:=T.out.one.lo
        obtain ⟨E,hE,hEQ⟩:=T.out.one.rg
        obtain ⟨F2,hF2,hFA2⟩:=T.out.two.lo
        obtain ⟨E2,hE2,hEQ2⟩:=T.out.two.rg
        have HDL1:=Hi T.out.one.lg
        have HLO1:=Hi (fun W (hW:Below wr.heap.size wr W)=>hF.kept hW)
        have HRG1:=Hi (fun W (hW:Below wr.heap.size wr W)=>hE.kept hW)
        have HBX:=Hi (HBX1.out.trans (T.out.bel.mono HBX1.out.size))
        have HVW:=Hi (fun W (hW:Below wr.heap.size wr W)=>HV1.out W (T.out.bel.trans (hW.mono T.out.bel.size)))
        have HS1:=Hi (fun W (hW:Below wr.heap.size wr W)=>rgsame_any a n W (hF.kept hW) (hE.kept hW) (fun r _=>by rw [T.out.one.lg]) T.out.one.wlen T.out.one.okd.1 T.out.one.sq (T.out.one.ents (by omega)))
        have HS2:=Hi (fun W (hW:Below wr.heap.size wr W)=>rgsame_any a n W (hF2.kept hW) (hE2.kept hW) (fun r _=>by rw [T.out.two.lg]) T.out.two.wlen T.out.two.okd.1 T.out.two.sq (T.out.two.ents (by omega)))
        have HCL:=Hi (fun W (hW:Below wr.heap.size wr W)=>lclone_any W (hF.kept hW))
        clear hF hE hF2 hE2 hFA hEQ hFA2 hEQ2
        go_upto_region 27 with fail
        refine wp_region_held_drew (S:=fun W=>Below wr.heap.size wr W) (by kernel_rfl) (Below.refl _ _).drew (fun hS=>?_)
        generalize wr.drew=wd at *
        refine tX 0 rfl hS ?_
        refine tX 1 rfl hS ?_
        go_simp
        refine tK 2 (v:=.agg (vecA a)) rfl (fun W hSW=>exec_load_vec vtR rfl rfl (HVW.out W hSW)) hS ?_
        refine tX 3 rfl hS ?_
        go_simp
        refine rD 4 rfl (fun K hK=>?_)
        go_simp
        go_wp2_with ((go_at_call 15; refine (HS1.out _ hS).mono ?_; rintro ec wc ⟨rfl,hbc⟩))
        refine hK.out _ _ (hS.trans (hbc.mono hS.size)) (fun hS=>?_)
        clear hK K hbc
        generalize wc=wcc at *
        refine tX 5 rfl hS ?_
        refine tX 6 rfl hS ?_
        refine tX 7 rfl hS ?_
        refine tX 8 rfl hS ?_
        go_simp
        refine tK 9 (v:=.agg (vecA a)) rfl (fun W hSW=>exec_load_vec vtR rfl rfl (HVW.out W hSW)) hS ?_
        refine tX 10 rfl hS ?_
        go_simp
        refine rD 11 rfl (fun K hK=>?_)
        go_simp
        go_wp2_with ((go_at_call 15; refine (HS2.out _ hS).mono ?_; rintro ec wc ⟨rfl,hbc⟩))
        refine hK.out _ _ (hS.trans (hbc.mono hS.size)) (fun hS=>?_)
        clear hK K hbc
        generalize wc=wcc at *
        refine tX 12 rfl hS ?_
        refine tX 13 rfl hS ?_
        refine tX 14 rfl hS ?_
        refine tX 15 rfl hS ?_
        go_simp
        refine tX 17 rfl hS ?_
        go_simp
        refine tK 18 (v:=.agg (vecA a)) rfl (fun W hSW=>exec_load_vec vtR rfl rfl (HVW.out W hSW)) hS ?_
        refine tX 19 rfl hS ?_
        go_simp
        refine rD 16 rfl (fun K hK=>?_)
        go_simp
        go_wp2_with ((go_at_call 8; refine (HCL.out _ hS).mono ?_; rintro ec wx ⟨lc,Sc,Mc,mc,rfl,hlc,hrc,hwc,hlc1,hlc2,hbc⟩))
        have HLC:=Hi hlc
        have HRC:=Hi hrc
        have HWC:=Hi hwc.length_eq
        have HSC:=Hi (hS.trans (hbc.mono hS.size))
        refine hK.out _ _ (hS.trans (hbc.mono hS.size)) (fun hS=>?_)
        clear hK K hlc hrc hwc hlc1 hlc2 hbc
        refine rD 20 rfl (fun K hK=>?_)
        have HS3:=Hi (rgsame_any a n wx HLC.out (HRG1.out wx HSC.out) (fun r hr=>by rw [HRC.out r hr,← HDL1.out]) (by rw [HWC.out]; exact T.out.one.wlen) T.out.one.okd.1 (T.out.one.sq.congr fun r hr=>(HRC.out r hr).symm) (by rw [(same_tell (L:=m.lg) (L':=mc.lg) fun r hr=>(HRC.out r hr).symm).2.2.2]; exact T.out.one.ents (by omega)))
        go_simp
        go_wp2_with ((go_at_call 15; refine HS3.out.mono ?_; rintro ec wy ⟨rfl,hby⟩))
        refine hK.out _ _ (hS.trans (hby.mono hS.size)) (fun hS=>?_)
        clear hK K hby
        refine tX 21 rfl hS ?_
        refine tX 22 rfl hS ?_
        go_simp
        refine wpAnyH_done (by kernel_rfl) ?_ _
        go_simp
        have TZ:=Hi (fun W (hW:Below wr.heap.size wr W)=>T.out.kept hW)
        have HSZZ:=Hi hS
        clear hS HS1 HS2 HCL HLC HRC HWC HSC HS3
        obtain ⟨wz,hwz⟩:∃ wz,wz=wy:=⟨_,rfl⟩
        subst hwz
        have HLOZ:=Hi (fun W (hW:Below wz.heap.size wz W)=>HLO1.out W (HSZZ.out.trans (hW.mono HSZZ.out.size)))
        have HRGZ:=Hi (fun W (hW:Below wz.heap.size wz W)=>HRG1.out W (HSZZ.out.trans (hW.mono HSZZ.out.size)))
        have HBZ:=Hi (HBX.out.trans (HSZZ.out.mono HBX.out.size))
        have HOKD:=Hi T.out.one.okd.1
        clear HSZZ TZ T HLO1 HRG1 HVW HBX
        go_wp2
        go_loopw [24] (fun i wr=>∃ k:Nat,k≤one.length∧i=.int .i64 (k:Int)∧Below wz.heap.size wz wr) (fun i _=>one.length - (intOf i).toNat)
        case atStart=>exact ⟨0,Nat.zero_le _,rfl,Below.refl _ _⟩
        case round =>
         obtain ⟨k,hk,rfl,hbw⟩:=hrel
         have HBW:=Hi hbw
         clear hbw
         have hn30:=HN30.out.1
         by_cases hkl:k<one.length
         ·have hd0:decide ((k:Int)<(one.length:Int))=true:=decide_eq_true (by omega)
          have HBR:=Hi (HBZ.out.trans (HBW.out.mono HBZ.out.size))
          obtain ⟨b1,q1,rfl,-⟩:=(HR1.out _ HBR.out).addr (by rw [beCells_length]; omega)
          have HKK:=Hi (show (k:Int)<(one.length:Int) from by omega)
          have HCE:=Hi (fun W (hW:Below wr.heap.size wr W)=>show W.cell? ⟨b1,q1+k * 4,none⟩=some (.int .i64 (beOf one k).x.r)∧W.cell? ⟨b1,q1+k * 4+1,none⟩=some (.int .i64 (beOf one k).x.s) from by
           have h1:=(HR1.out W (HBR.out.trans (hW.mono HBR.out.size))).be k hkl
           exact ⟨h1 0 _ rfl,h1 1 _ rfl⟩)
          have HSZK:=Hi (HSZ1.out _ (beOf_mem hkl))
          obtain ⟨xr,hxr⟩:∃ xr,(beOf one k).x.r=xr:=⟨_,rfl⟩
          obtain ⟨xs,hxs⟩:∃ xs,(beOf one k).x.s=xs:=⟨_,rfl⟩
          rw [hxr,hxs] at HCE
          clear hxr hxs HSZK
          have HLOW:=Hi (fun W (hW:Below wr.heap.size wr W)=>HLOZ.out W (HBW.out.trans (hW.mono HBW.out.size)))
          have HRGW:=Hi (fun W (hW:Below wr.heap.size wr W)=>HRGZ.out W (HBW.out.trans (hW.mono HBW.out.size)))
          have HBT:=Hi (fun W (hW:Below wr.heap.size wr W)=>lbatch_any xr xs W (HLOW.out W hW))
          go_upto_region 32 with fail
          cases hbl:batchL m.lg xr xs with
          | none =>
           have HP0:=Hi (batch_none hbl)
           unfold Batched at HBT
           rw [hbl] at HBT
           dsimp only at HBT
           clear hbl
           go_cut [25,26] (fun s25 s26 wx=>∃ X:Nat,s25=.pointer (some ⟨X,0,none⟩)∧s26=.bool false∧Below wr.heap.size wr wx)
           case first =>
            as_aux_lemma =>
             refine wp_region_held_drew (S:=fun W=>Below wr.heap.size wr W) (by kernel_rfl) (Below.refl _ _).drew (fun hS=>?_)
             generalize wr.drew=wd at *
             refine tX 0 rfl hS ?_
             refine tX 1 rfl hS ?_
             refine tX 2 rfl hS ?_
             refine tK 3 (v:=?_) rfl ?_ hS ?_
             rotate_left
             ·intro W hSW
              have hkk:=HKK.out
              go_simp
              all_goals with_reducible rfl
             go_simp
             refine tX 4 rfl hS ?_
             refine tK 5 (v:=?_) rfl ?_ hS ?_
             rotate_left
             ·intro W hSW
              obtain ⟨c0,c1⟩:=HCE.out W hSW
              have hkk:=HKK.out
              go_simp
              all_goals with_reducible rfl
             refine tX 6 rfl hS ?_
             refine tX 7 rfl hS ?_
             go_simp
             refine tK 8 (v:=?_) rfl ?_ hS ?_
             rotate_left
             ·intro W hSW
              have hkk:=HKK.out
              go_simp
              all_goals with_reducible rfl
             refine tX 9 rfl hS ?_
             refine tK 10 (v:=?_) rfl ?_ hS ?_
             rotate_left
             ·intro W hSW
              obtain ⟨c0,c1⟩:=HCE.out W hSW
              have hkk:=HKK.out
              go_simp
              all_goals with_reducible rfl
             go_simp
             refine wpAnyH_ready (rs:=[11,15]) (by kernel_rfl) (by simp) ?_
             refine AllReadyH.cons rfl (fun K hK=>?_) (AllReadyH.cons rfl (fun K hK=>?_) AllReadyH.nil)
             ·go_simp
              go_wp2_with ((go_at_call 16; refine (HBT.out _ hS).mono ?_; rintro ec w11 ⟨rfl,hbn⟩))
              refine hK.out _ _ (hS.trans (hbn.mono hS.size)) (fun hS=>?_)
              clear hK K hbn
              refine tX 12 rfl hS ?_
              refine tX 13 rfl hS ?_
              refine tX 14 rfl hS ?_
              go_simp
              refine rD 15 rfl (fun K hK=>?_)
              go_simp
              have hb:=(Below.refl w11.heap.size w11).alloc (Nat.le_refl _) (.cells #[.int .i64 0,.int .i64 0,.int .i64 0,.slice none 0 0] 39)
              have HA15:=Hi (show AgAt (w11.alloc (.cells #[.int .i64 0,.int .i64 0,.int .i64 0,.slice none 0 0] 39)) w11.heap.size (btA Bat.zero none 0)∧w11.heap.size<(w11.alloc (.cells #[.int .i64 0,.int .i64 0,.int .i64 0,.slice none 0 0] 39)).heap.size from ⟨AgAt.new w11 _ _,by simp⟩)
              have HG15:=Hi (show wr.heap.size≤w11.heap.size from hS.size)
              refine hK.out _ _ (hS.trans (hb.mono hS.size)) (fun hS=>?_)
              clear hK K hb
              generalize w11.alloc (.cells #[.int .i64 0,.int .i64 0,.int .i64 0,.slice none 0 0] 39)=w15 at *
              refine rD 16 rfl (fun K hK=>?_)
              refine step_of (by kernel_rfl) ?_
              refine wp_store_ag btP _ _ rfl _ rfl _ HA15.out.1 (A:=btA Bat.zero none 0) rfl rfl rfl (btA_one _ _ _) ?_
              intro w16 hv16 hko hsz hbn
              have HV16:=Hi hv16
              refine hK.out _ _ (hbn _ _ hS HG15.out) (fun hS=>?_)
              clear hK K hv16 hko hsz hbn
              refine tX 17 rfl hS ?_
              go_simp
              refine wpAnyH_done (by kernel_rfl) ?_ _
              go_simp
              have HS6:=Hi hS
              clear hS
              go_wp2_with fail
              go_meet
              exact ⟨_,rfl,rfl,HS6.out⟩
             ·go_simp
              have hb:=(Below.refl wd.heap.size wd).alloc (Nat.le_refl _) (.cells #[.int .i64 0,.int .i64 0,.int .i64 0,.slice none 0 0] 39)
              have HA15:=Hi (show AgAt (wd.alloc (.cells #[.int .i64 0,.int .i64 0,.int .i64 0,.slice none 0 0] 39)) wd.heap.size (btA Bat.zero none 0)∧wd.heap.size<(wd.alloc (.cells #[.int .i64 0,.int .i64 0,.int .i64 0,.slice none 0 0] 39)).heap.size from ⟨AgAt.new wd _ _,by simp⟩)
              have HG15:=Hi (show wr.heap.size≤wd.heap.size from hS.size)
              refine hK.out _ _ (hS.trans (hb.mono hS.size)) (fun hS=>?_)
              clear hK K hb
              generalize wd.alloc (.cells #[.int .i64 0,.int .i64 0,.int .i64 0,.slice none 0 0] 39)=w15 at *
              refine rD 11 rfl (fun K hK=>?_)
              go_simp
              go_wp2_with ((go_at_call 16; refine (HBT.out _ hS).mono ?_; rintro ec w11 ⟨rfl,hbn⟩))
              replace HA15:=Hi (show AgAt w11 wd.heap.size (btA Bat.zero none 0)∧wd.heap.size<w11.heap.size from ⟨HA15.out.1.kept hbn,Nat.lt_of_lt_of_le HA15.out.2 hbn.size⟩)
              refine hK.out _ _ (hS.trans (hbn.mono hS.size)) (fun hS=>?_)
              clear hK K hbn
              refine tX 12 rfl hS ?_
              refine tX 13 rfl hS ?_
              refine tX 14 rfl hS ?_
              go_simp
              refine rD 16 rfl (fun K hK=>?_)
              refine step_of (by kernel_rfl) ?_
              refine wp_store_ag btP _ _ rfl _ rfl _ HA15.out.1 (A:=btA Bat.zero none 0) rfl rfl rfl (btA_one _ _ _) ?_
              intro w16 hv16 hko hsz hbn
              have HV16:=Hi hv16
              refine hK.out _ _ (hbn _ _ hS HG15.out) (fun hS=>?_)
              clear hK K hv16 hko hsz hbn
              refine tX 17 rfl hS ?_
              go_simp
              refine wpAnyH_done (by kernel_rfl) ?_ _
              go_simp
              have HS6:=Hi hS
              clear hS
              go_wp2_with fail
              go_meet
              exact ⟨_,rfl,rfl,HS6.out⟩
           case rest =>
            obtain ⟨X,rfl,rfl,hbc⟩:=hcut
            obtain ⟨w32,hw32⟩:∃ w32,w32=wc:=⟨_,rfl⟩
            subst hw32
            have HBC:=Hi hbc
            clear hbc
            go_upto_region 33 with fail
            go_cut [27] (fun s27 wx=>s27=.bool false∧Below w32.heap.size w32 wx)
            case first =>
             by_cases c0:0≤xr
             ·have e0:decide (0≤xr)=true:=decide_eq_true c0
              by_cases c1:xr<16
              ·have e1:decide (xr<16)=true:=decide_eq_true c1
               by_cases c2:1≤xs
               ·have e2:decide (1≤xs)=true:=decide_eq_true c2
                have HRN:=Hi (show xr.toNat<16 from by omega)
                have HXR:=Hi (show 0≤xr∧xr<16 from ⟨c0,c1⟩)
                have c3:¬ xs≤((d.el xr.toNat).length:Int):=fun h=>HP0.out ⟨c0,c1,c2,by rw [← HDL1.out]; simpa [Rm.lg] using h⟩
                have e3:decide (xs≤((d.el xr.toNat).length:Int))=false:=decide_eq_false c3
                clear c3
                as_aux_lemma =>
                 refine wp_region_held_drew (S:=fun W=>Below w32.heap.size w32 W) (by kernel_rfl) (Below.refl _ _).drew (fun hS=>?_)
                 generalize w32.drew=we at *
                 refine tX 0 rfl hS ?_
                 refine tX 1 rfl hS ?_
                 refine tK 2 (v:=?_) rfl ?_ hS ?_
                 rotate_left
                 ·intro W hSW
                  have hkk:=HKK.out
                  go_simp
                  all_goals with_reducible rfl
                 refine tX 3 rfl hS ?_
                 go_simp
                 refine tK 4 (v:=?_) rfl ?_ hS ?_
                 rotate_left
                 ·intro W hSW
                  obtain ⟨c0x,c1x⟩:=HCE.out W (HBC.out.trans (hSW.mono HBC.out.size))
                  have hkk:=HKK.out
                  go_simp
                  all_goals with_reducible rfl
                 refine tX 5 rfl hS ?_
                 refine tX 6 rfl hS ?_
                 refine tX 7 rfl hS ?_
                 go_simp
                 refine tX 8 rfl hS ?_
                 refine tK 9 (v:=?_) rfl ?_ hS ?_
                 rotate_left
                 ·intro W hSW
                  have hkk:=HKK.out
                  go_simp
                  all_goals with_reducible rfl
                 refine tX 10 rfl hS ?_
                 refine tK 11 (v:=?_) rfl ?_ hS ?_
                 rotate_left
                 ·intro W hSW
                  obtain ⟨c0x,c1x⟩:=HCE.out W (HBC.out.trans (hSW.mono HBC.out.size))
                  have hkk:=HKK.out
                  go_simp
                  all_goals with_reducible rfl
                 go_simp
                 refine tX 12 rfl hS ?_
                 refine tX 13 rfl hS ?_
                 refine tX 14 rfl hS ?_
                 refine tX 15 rfl hS ?_
                 go_simp
                 refine tX 16 rfl hS ?_
                 refine tK 17 (v:=?_) rfl ?_ hS ?_
                 rotate_left
                 ·intro W hSW
                  have hkk:=HKK.out
                  go_simp
                  all_goals with_reducible rfl
                 refine tX 18 rfl hS ?_
                 refine tK 19 (v:=?_) rfl ?_ hS ?_
                 rotate_left
                 ·intro W hSW
                  obtain ⟨c0x,c1x⟩:=HCE.out W (HBC.out.trans (hSW.mono HBC.out.size))
                  have hkk:=HKK.out
                  go_simp
                  all_goals with_reducible rfl
                 go_simp
                 refine tX 20 rfl hS ?_
                 refine tX 21 rfl hS ?_
                 refine tX 22 rfl hS ?_
                 refine tX 23 rfl hS ?_
                 go_simp
                 refine tX 24 rfl hS ?_
                 refine tK 25 (v:=?_) rfl ?_ hS ?_
                 rotate_left
                 ·intro W hSW
                  have hkk:=HKK.out
                  go_simp
                  all_goals with_reducible rfl
                 refine tX 26 rfl hS ?_
                 refine tK 27 (v:=?_) rfl ?_ hS ?_
                 rotate_left
                 ·intro W hSW
                  obtain ⟨c0x,c1x⟩:=HCE.out W (HBC.out.trans (hSW.mono HBC.out.size))
                  have hkk:=HKK.out
                  go_simp
                  all_goals with_reducible rfl
                 go_simp
                 refine tX 28 rfl hS ?_
                 refine tX 29 rfl hS ?_
                 refine tX 30 rfl hS ?_
                 refine tK 31 (v:=?_) rfl ?_ hS ?_
                 rotate_left
                 ·intro W hSW
                  have hkk:=HKK.out
                  go_simp
                  all_goals with_reducible rfl
                 go_simp
                 refine tX 32 rfl hS ?_
                 refine tK 33 (v:=?_) rfl ?_ hS ?_
                 rotate_left
                 ·intro W hSW
                  obtain ⟨c0x,c1x⟩:=HCE.out W (HBC.out.trans (hSW.mono HBC.out.size))
                  have hkk:=HKK.out
                  go_simp
                  all_goals with_reducible rfl
                 refine tX 34 rfl hS ?_
                 refine tX 35 rfl hS ?_
                 go_simp
                 refine tK 36 (v:=?_) rfl ?_ hS ?_
                 rotate_left
                 ·intro W hSW
                  have hri:=HXR.out.1
                  have hri2:=HXR.out.2
                  go_simp
                  all_goals with_reducible rfl
                 refine tK 37 (v:=?_) rfl ?_ hS ?_
                 rotate_left
                 ·intro W hSW
                  have yc:=(HRGW.out W (HBC.out.trans (hSW.mono HBC.out.size))).cell HRN.out
                  go_simp
                  all_goals with_reducible rfl
                 refine tX 38 rfl hS ?_
                 refine tX 39 rfl hS ?_
                 go_simp
                 refine tX 40 rfl hS ?_
                 refine tX 41 rfl hS ?_
                 go_simp
                 refine wpAnyH_done (by kernel_rfl) ?_ _
                 go_simp
                 have HSM:=Hi hS
                 clear hS
                 go_wp2_with fail
                 go_meet
                 exact ⟨rfl,HSM.out⟩
               ·have e2:decide (1≤xs)=false:=decide_eq_false c2
                as_aux_lemma =>
                 refine wp_region_held_drew (S:=fun W=>Below w32.heap.size w32 W) (by kernel_rfl) (Below.refl _ _).drew (fun hS=>?_)
                 generalize w32.drew=we at *
                 refine tX 0 rfl hS ?_
                 refine tX 1 rfl hS ?_
                 refine tK 2 (v:=?_) rfl ?_ hS ?_
                 rotate_left
                 ·intro W hSW
                  have hkk:=HKK.out
                  go_simp
                  all_goals with_reducible rfl
                 refine tX 3 rfl hS ?_
                 go_simp
                 refine tK 4 (v:=?_) rfl ?_ hS ?_
                 rotate_left
                 ·intro W hSW
                  obtain ⟨c0x,c1x⟩:=HCE.out W (HBC.out.trans (hSW.mono HBC.out.size))
                  have hkk:=HKK.out
                  go_simp
                  all_goals with_reducible rfl
                 refine tX 5 rfl hS ?_
                 refine tX 6 rfl hS ?_
                 refine tX 7 rfl hS ?_
                 go_simp
                 refine tX 8 rfl hS ?_
                 refine tK 9 (v:=?_) rfl ?_ hS ?_
                 rotate_left
                 ·intro W hSW
                  have hkk:=HKK.out
                  go_simp
                  all_goals with_reducible rfl
                 refine tX 10 rfl hS ?_
                 refine tK 11 (v:=?_) rfl ?_ hS ?_
                 rotate_left
                 ·intro W hSW
                  obtain ⟨c0x,c1x⟩:=HCE.out W (HBC.out.trans (hSW.mono HBC.out.size))
                  have hkk:=HKK.out
                  go_simp
                  all_goals with_reducible rfl
                 go_simp
                 refine tX 12 rfl hS ?_
                 refine tX 13 rfl hS ?_
                 refine tX 14 rfl hS ?_
                 refine tX 15 rfl hS ?_
                 go_simp
                 refine tX 16 rfl hS ?_
                 refine tK 17 (v:=?_) rfl ?_ hS ?_
                 rotate_left
                 ·intro W hSW
                  have hkk:=HKK.out
                  go_simp
                  all_goals with_reducible rfl
                 refine tX 18 rfl hS ?_
                 refine tK 19 (v:=?_) rfl ?_ hS ?_
                 rotate_left
                 ·intro W hSW
                  obtain ⟨c0x,c1x⟩:=HCE.out W (HBC.out.trans (hSW.mono HBC.out.size))
                  have hkk:=HKK.out
                  go_simp
                  all_goals with_reducible rfl
                 go_simp
                 refine tX 20 rfl hS ?_
                 refine tX 21 rfl hS ?_
                 refine tX 22 rfl hS ?_
                 go_simp
                 refine tU 23 rfl hS ?_
                 go_simp
                 refine tU 24 rfl hS ?_
                 go_simp
                 refine tU 25 rfl hS ?_
                 go_simp
                 refine tU 26 rfl hS ?_
                 go_simp
                 refine tU 27 rfl hS ?_
                 go_simp
                 refine tU 28 rfl hS ?_
                 go_simp
                 refine tU 29 rfl hS ?_
                 go_simp
                 refine tU 30 rfl hS ?_
                 go_simp
                 refine tU 31 rfl hS ?_
                 go_simp
                 refine tU 32 rfl hS ?_
                 go_simp
                 refine tU 33 rfl hS ?_
                 go_simp
                 refine tU 34 rfl hS ?_
                 go_simp
                 refine tU 35 rfl hS ?_
                 go_simp
                 refine tU 36 rfl hS ?_
                 go_simp
                 refine tU 37 rfl hS ?_
                 go_simp
                 refine tU 38 rfl hS ?_
                 go_simp
                 refine tU 39 rfl hS ?_
                 refine tX 40 rfl hS ?_
                 refine tX 41 rfl hS ?_
                 go_simp
                 refine wpAnyH_done (by kernel_rfl) ?_ _
                 go_simp
                 have HSM:=Hi hS
                 clear hS
                 go_wp2_with fail
                 go_meet
                 exact ⟨rfl,HSM.out⟩
              ·have e1:decide (xr<16)=false:=decide_eq_false c1
               as_aux_lemma =>
                refine wp_region_held_drew (S:=fun W=>Below w32.heap.size w32 W) (by kernel_rfl) (Below.refl _ _).drew (fun hS=>?_)
                generalize w32.drew=we at *
                refine tX 0 rfl hS ?_
                refine tX 1 rfl hS ?_
                refine tK 2 (v:=?_) rfl ?_ hS ?_
                rotate_left
                ·intro W hSW
                 have hkk:=HKK.out
                 go_simp
                 all_goals with_reducible rfl
                refine tX 3 rfl hS ?_
                go_simp
                refine tK 4 (v:=?_) rfl ?_ hS ?_
                rotate_left
                ·intro W hSW
                 obtain ⟨c0x,c1x⟩:=HCE.out W (HBC.out.trans (hSW.mono HBC.out.size))
                 have hkk:=HKK.out
                 go_simp
                 all_goals with_reducible rfl
                refine tX 5 rfl hS ?_
                refine tX 6 rfl hS ?_
                refine tX 7 rfl hS ?_
                go_simp
                refine tX 8 rfl hS ?_
                refine tK 9 (v:=?_) rfl ?_ hS ?_
                rotate_left
                ·intro W hSW
                 have hkk:=HKK.out
                 go_simp
                 all_goals with_reducible rfl
                refine tX 10 rfl hS ?_
                refine tK 11 (v:=?_) rfl ?_ hS ?_
                rotate_left
                ·intro W hSW
                 obtain ⟨c0x,c1x⟩:=HCE.out W (HBC.out.trans (hSW.mono HBC.out.size))
                 have hkk:=HKK.out
                 go_simp
                 all_goals with_reducible rfl
                go_simp
                refine tX 12 rfl hS ?_
                refine tX 13 rfl hS ?_
                refine tX 14 rfl hS ?_
                go_simp
                refine tU 15 rfl hS ?_
                go_simp
                refine tU 16 rfl hS ?_
                go_simp
                refine tU 17 rfl hS ?_
                go_simp
                refine tU 18 rfl hS ?_
                go_simp
                refine tU 19 rfl hS ?_
                go_simp
                refine tU 20 rfl hS ?_
                refine tX 21 rfl hS ?_
                refine tX 22 rfl hS ?_
                go_simp
                refine tU 23 rfl hS ?_
                go_simp
                refine tU 24 rfl hS ?_
                go_simp
                refine tU 25 rfl hS ?_
                go_simp
                refine tU 26 rfl hS ?_
                go_simp
                refine tU 27 rfl hS ?_
                go_simp
                refine tU 28 rfl hS ?_
                go_simp
                refine tU 29 rfl hS ?_
                go_simp
                refine tU 30 rfl hS ?_
                go_simp
                refine tU 31 rfl hS ?_
                go_simp
                refine tU 32 rfl hS ?_
                go_simp
                refine tU 33 rfl hS ?_
                go_simp
                refine tU 34 rfl hS ?_
                go_simp
                refine tU 35 rfl hS ?_
                go_simp
                refine tU 36 rfl hS ?_
                go_simp
                refine tU 37 rfl hS ?_
                go_simp
                refine tU 38 rfl hS ?_
                go_simp
                refine tU 39 rfl hS ?_
                refine tX 40 rfl hS ?_
                refine tX 41 rfl hS ?_
                go_simp
                refine wpAnyH_done (by kernel_rfl) ?_ _
                go_simp
                have HSM:=Hi hS
                clear hS
                go_wp2_with fail
                go_meet
                exact ⟨rfl,HSM.out⟩
             ·have e0:decide (0≤xr)=false:=decide_eq_false c0
              as_aux_lemma =>
               refine wp_region_held_drew (S:=fun W=>Below w32.heap.size w32 W) (by kernel_rfl) (Below.refl _ _).drew (fun hS=>?_)
               generalize w32.drew=we at *
               refine tX 0 rfl hS ?_
               refine tX 1 rfl hS ?_
               refine tK 2 (v:=?_) rfl ?_ hS ?_
               rotate_left
               ·intro W hSW
                have hkk:=HKK.out
                go_simp
                all_goals with_reducible rfl
               refine tX 3 rfl hS ?_
               go_simp
               refine tK 4 (v:=?_) rfl ?_ hS ?_
               rotate_left
               ·intro W hSW
                obtain ⟨c0x,c1x⟩:=HCE.out W (HBC.out.trans (hSW.mono HBC.out.size))
                have hkk:=HKK.out
                go_simp
                all_goals with_reducible rfl
               refine tX 5 rfl hS ?_
               refine tX 6 rfl hS ?_
               go_simp
               refine tU 7 rfl hS ?_
               go_simp
               refine tU 8 rfl hS ?_
               go_simp
               refine tU 9 rfl hS ?_
               go_simp
               refine tU 10 rfl hS ?_
               go_simp
               refine tU 11 rfl hS ?_
               go_simp
               refine tU 12 rfl hS ?_
               refine tX 13 rfl hS ?_
               refine tX 14 rfl hS ?_
               go_simp
               refine tU 15 rfl hS ?_
               go_simp
               refine tU 16 rfl hS ?_
               go_simp
               refine tU 17 rfl hS ?_
               go_simp
               refine tU 18 rfl hS ?_
               go_simp
               refine tU 19 rfl hS ?_
               go_simp
               refine tU 20 rfl hS ?_
               refine tX 21 rfl hS ?_
               refine tX 22 rfl hS ?_
               go_simp
               refine tU 23 rfl hS ?_
               go_simp
               refine tU 24 rfl hS ?_
               go_simp
               refine tU 25 rfl hS ?_
               go_simp
               refine tU 26 rfl hS ?_
               go_simp
               refine tU 27 rfl hS ?_
               go_simp
               refine tU 28 rfl hS ?_
               go_simp
               refine tU 29 rfl hS ?_
               go_simp
               refine tU 30 rfl hS ?_
               go_simp
               refine tU 31 rfl hS ?_
               go_simp
               refine tU 32 rfl hS ?_
               go_simp
               refine tU 33 rfl hS ?_
               go_simp
               refine tU 34 rfl hS ?_
               go_simp
               refine tU 35 rfl hS ?_
               go_simp
               refine tU 36 rfl hS ?_
               go_simp
               refine tU 37 rfl hS ?_
               go_simp
               refine tU 38 rfl hS ?_
               go_simp
               refine tU 39 rfl hS ?_
               refine tX 40 rfl hS ?_
               refine tX 41 rfl hS ?_
               go_simp
               refine wpAnyH_done (by kernel_rfl) ?_ _
               go_simp
               have HSM:=Hi hS
               clear hS
               go_wp2_with fail
               go_meet
               exact ⟨rfl,HSM.out⟩
            case rest =>
             obtain ⟨rfl,hS⟩:=hcut
             as_aux_lemma =>
              have HBE:=Hi (HBC.out.trans (hS.mono HBC.out.size))
              clear hS
              go_upto_region 34 with fail
              refine wp_region_held_drew (S:=fun W=>Below wc.heap.size wc W) (by kernel_rfl) (Below.refl _ _).drew (fun hS=>?_)
              generalize wc.drew=wg at *
              refine tX 0 rfl hS ?_
              refine tX 1 rfl hS ?_
              refine tX 2 rfl hS ?_
              refine tX 3 rfl hS ?_
              go_simp
              refine tX 4 rfl hS ?_
              refine tX 5 rfl hS ?_
              go_simp
              refine tU 6 rfl hS ?_
              go_simp
              refine tU 7 rfl hS ?_
              go_simp
              refine tU 8 rfl hS ?_
              go_simp
              refine tU 9 rfl hS ?_
              go_simp
              refine tU 10 rfl hS ?_
              go_simp
              refine tU 11 rfl hS ?_
              go_simp
              refine tU 12 rfl hS ?_
              go_simp
              refine tU 13 rfl hS ?_
              go_simp
              refine tU 14 rfl hS ?_
              go_simp
              refine tU 15 rfl hS ?_
              go_simp
              refine tU 16 rfl hS ?_
              go_simp
              refine tU 17 rfl hS ?_
              go_simp
              refine tU 18 rfl hS ?_
              go_simp
              refine tU 19 rfl hS ?_
              go_simp
              refine tU 20 rfl hS ?_
              go_simp
              refine tU 21 rfl hS ?_
              go_simp
              refine tU 22 rfl hS ?_
              go_simp
              refine tU 23 rfl hS ?_
              go_simp
              refine tU 24 rfl hS ?_
              go_simp
              refine tU 25 rfl hS ?_
              go_simp
              refine tU 26 rfl hS ?_
              go_simp
              refine tU 27 rfl hS ?_
              refine tX 28 rfl hS ?_
              refine tX 29 rfl hS ?_
              go_simp
              refine wpAnyH_done (by kernel_rfl) ?_ _
              go_simp
              have HBF:=Hi (HBW.out.trans ((HBE.out.trans (hS.mono HBE.out.size)).mono HBW.out.size))
              clear hS
              go_wp2
              go_roundw
              case rel=>exact ⟨k+1,by omega,by go_num,HBF.out⟩
              case measure=>simp [intOf]; omega
          | some x =>
           have hbl2:batchL d.lg xr xs=some x:=by rw [HDL1.out]; exact hbl
           obtain ⟨i,rn,hrn,hr16,hsi,hil,hxi⟩:=batch_some hbl2
           obtain rfl:rn=xr.toNat:=by omega
           have hil2:i<(d.el xr.toNat).length:=by simpa [Rm.lg] using hil
           have hbx:(beOf (d.el xr.toNat) i).x=x:=by rw [← hxi]; exact (beOf_map hil2).symm
           have HBX:=Hi hbx
           have HOKX:=Hi (show OkB x from by rw [← hxi]; exact HOKD.out.right xr.toNat hr16 _ (List.getElem_mem hil))
           have HIL:=Hi hil2
           have HRN:=Hi hr16
           obtain ⟨bq,hq,-⟩:=rob_cells ((HRGW.out wr (Below.refl _ _)).row xr.toNat hr16) hil2
           have HQ:=Hi hq
           have HMEM:=Hi (beOf_mem hil2)
           have hlen:=Rm.len HOKD.out hr16
           unfold Batched at HBT
           rw [hbl] at HBT
           dsimp only at HBT
           have e0:decide (0≤xr)=true:=decide_eq_true (by omega)
           have e1:decide (xr<16)=true:=decide_eq_true (by omega)
           have e2:decide (1≤xs)=true:=decide_eq_true (by omega)
           have e3:decide (xs≤((d.el xr.toNat).length:Int))=true:=decide_eq_true (by omega)
           have HII:=Hi (show (i:Int)<((d.el xr.toNat).length:Int) from by omega)
           have E1:=Hi (show xs - 1=(i:Int) from by omega)
           have W0:=Hi (show IntKind.i64.wrap (i:Int)=(i:Int) from wraps_i64 _ (by omega) (by omega))
           have HXR:=Hi (show 0≤xr∧xr<16 from by omega)
           clear hbl hbl2 hbx hxi hil hq hrn hsi
           go_cut [25,26] (fun s25 s26 wx=>∃ (X:Nat) (pn:Option Addr) (cn:Nat),s25=.pointer (some ⟨X,0,none⟩)∧s26=.bool true∧BtAt wx X x pn cn∧Bops wx x pn cn∧Below wr.heap.size wr wx)
           case first =>
            as_aux_lemma =>
             refine wp_region_held_drew (S:=fun W=>Below wr.heap.size wr W) (by kernel_rfl) (Below.refl _ _).drew (fun hS=>?_)
             generalize wr.drew=wd at *
             refine tX 0 rfl hS ?_
             refine tX 1 rfl hS ?_
             refine tX 2 rfl hS ?_
             refine tK 3 (v:=?_) rfl ?_ hS ?_
             rotate_left
             ·intro W hSW
              have hkk:=HKK.out
              go_simp
              all_goals with_reducible rfl
             go_simp
             refine tX 4 rfl hS ?_
             refine tK 5 (v:=?_) rfl ?_ hS ?_
             rotate_left
             ·intro W hSW
              obtain ⟨c0,c1⟩:=HCE.out W hSW
              have hkk:=HKK.out
              go_simp
              all_goals with_reducible rfl
             refine tX 6 rfl hS ?_
             refine tX 7 rfl hS ?_
             go_simp
             refine tK 8 (v:=?_) rfl ?_ hS ?_
             rotate_left
             ·intro W hSW
              have hkk:=HKK.out
              go_simp
              all_goals with_reducible rfl
             refine tX 9 rfl hS ?_
             refine tK 10 (v:=?_) rfl ?_ hS ?_
             rotate_left
             ·intro W hSW
              obtain ⟨c0,c1⟩:=HCE.out W hSW
              have hkk:=HKK.out
              go_simp
              all_goals with_reducible rfl
             go_simp
             refine wpAnyH_ready (rs:=[11,15]) (by kernel_rfl) (by simp) ?_
             refine AllReadyH.cons rfl (fun K hK=>?_) (AllReadyH.cons rfl (fun K hK=>?_) AllReadyH.nil)
             ·go_simp
              go_wp2_with ((go_at_call 16; refine (HBT.out _ hS).mono ?_; rintro ec w11 ⟨pn,cn,rfl,hpn,hbn⟩))
              have HPB:=Hi ((BopsF.ofN hpn).mono (G:=fun j=>j<w11.heap.size) fun j hj _=>hj)
              refine hK.out _ _ (hS.trans (hbn.mono hS.size)) (fun hS=>?_)
              clear hK K hbn hpn
              refine tX 12 rfl hS ?_
              refine tX 13 rfl hS ?_
              refine tX 14 rfl hS ?_
              go_simp
              refine rD 15 rfl (fun K hK=>?_)
              go_simp
              have hb:=(Below.refl w11.heap.size w11).alloc (Nat.le_refl _) (.cells #[.int .i64 0,.int .i64 0,.int .i64 0,.slice none 0 0] 39)
              have HA15:=Hi (show AgAt (w11.alloc (.cells #[.int .i64 0,.int .i64 0,.int .i64 0,.slice none 0 0] 39)) w11.heap.size (btA Bat.zero none 0)∧w11.heap.size<(w11.alloc (.cells #[.int .i64 0,.int .i64 0,.int .i64 0,.slice none 0 0] 39)).heap.size from ⟨AgAt.new w11 _ _,by simp⟩)
              replace HPB:=Hi ((HPB.out.below hb).mono (G:=fun j=>j≠w11.heap.size) fun j _ hj e=>by omega)
              have HG15:=Hi (show wr.heap.size≤w11.heap.size from hS.size)
              refine hK.out _ _ (hS.trans (hb.mono hS.size)) (fun hS=>?_)
              clear hK K hb
              generalize w11.alloc (.cells #[.int .i64 0,.int .i64 0,.int .i64 0,.slice none 0 0] 39)=w15 at *
              refine rD 16 rfl (fun K hK=>?_)
              refine step_of (by kernel_rfl) ?_
              refine wp_store_ag btP _ _ rfl _ rfl _ HA15.out.1 (A:=btA x pn cn) rfl rfl rfl (btA_one _ _ _) ?_
              intro w16 hv16 hko hsz hbn
              have HV16:=Hi hv16
              have HP16:=Hi (HPB.out.turns (stored_turns hko hsz hbn) fun j hj e=>hj e)
              refine hK.out _ _ (hbn _ _ hS HG15.out) (fun hS=>?_)
              clear hK K hv16 hko hsz hbn
              refine tX 17 rfl hS ?_
              go_simp
              refine wpAnyH_done (by kernel_rfl) ?_ _
              go_simp
              have HS6:=Hi hS
              clear hS
              go_wp2_with fail
              go_meet
              exact ⟨_,pn,cn,rfl,rfl,HV16.out,HP16.out.bops,HS6.out⟩
             ·go_simp
              have hb:=(Below.refl wd.heap.size wd).alloc (Nat.le_refl _) (.cells #[.int .i64 0,.int .i64 0,.int .i64 0,.slice none 0 0] 39)
              have HA15:=Hi (show AgAt (wd.alloc (.cells #[.int .i64 0,.int .i64 0,.int .i64 0,.slice none 0 0] 39)) wd.heap.size (btA Bat.zero none 0)∧wd.heap.size<(wd.alloc (.cells #[.int .i64 0,.int .i64 0,.int .i64 0,.slice none 0 0] 39)).heap.size from ⟨AgAt.new wd _ _,by simp⟩)
              have HG15:=Hi (show wr.heap.size≤wd.heap.size from hS.size)
              refine hK.out _ _ (hS.trans (hb.mono hS.size)) (fun hS=>?_)
              clear hK K hb
              generalize wd.alloc (.cells #[.int .i64 0,.int .i64 0,.int .i64 0,.slice none 0 0] 39)=w15 at *
              refine rD 11 rfl (fun K hK=>?_)
              go_simp
              go_wp2_with ((go_at_call 16; refine (HBT.out _ hS).mono ?_; rintro ec w11 ⟨pn,cn,rfl,hpn,hbn⟩))
              have HPB:=Hi ((BopsF.ofN hpn).mono (G:=fun j=>j≠wd.heap.size) fun j _ hj e=>by have:=HA15.out.2; omega)
              replace HA15:=Hi (show AgAt w11 wd.heap.size (btA Bat.zero none 0)∧wd.heap.size<w11.heap.size from ⟨HA15.out.1.kept hbn,Nat.lt_of_lt_of_le HA15.out.2 hbn.size⟩)
              refine hK.out _ _ (hS.trans (hbn.mono hS.size)) (fun hS=>?_)
              clear hK K hbn hpn
              refine tX 12 rfl hS ?_
              refine tX 13 rfl hS ?_
              refine tX 14 rfl hS ?_
              go_simp
              refine rD 16 rfl (fun K hK=>?_)
              refine step_of (by kernel_rfl) ?_
              refine wp_store_ag btP _ _ rfl _ rfl _ HA15.out.1 (A:=btA x pn cn) rfl rfl rfl (btA_one _ _ _) ?_
              intro w16 hv16 hko hsz hbn
              have HV16:=Hi hv16
              have HP16:=Hi (HPB.out.turns (stored_turns hko hsz hbn) fun j hj e=>hj e)
              refine hK.out _ _ (hbn _ _ hS HG15.out) (fun hS=>?_)
              clear hK K hv16 hko hsz hbn
              refine tX 17 rfl hS ?_
              go_simp
              refine wpAnyH_done (by kernel_rfl) ?_ _
              go_simp
              have HS6:=Hi hS
              clear hS
              go_wp2_with fail
              go_meet
              exact ⟨_,pn,cn,rfl,rfl,HV16.out,HP16.out.bops,HS6.out⟩
           case rest =>
            obtain ⟨X,pn,cn,rfl,rfl,hvx,hpx,hbc⟩:=hcut
            obtain ⟨w32,hw32⟩:∃ w32,w32=wc:=⟨_,rfl⟩
            subst hw32
            have HBC:=Hi hbc
            have HVX:=Hi hvx
            have HPX:=Hi hpx
            clear hbc hvx hpx
            go_upto_region 33 with fail
            go_cut [27] (fun s27 wx=>s27=.bool true∧Below w32.heap.size w32 wx)
            case first =>
             as_aux_lemma =>
              refine wp_region_held_drew (S:=fun W=>Below w32.heap.size w32 W) (by kernel_rfl) (Below.refl _ _).drew (fun hS=>?_)
              generalize w32.drew=we at *
              refine tX 0 rfl hS ?_
              refine tX 1 rfl hS ?_
              refine tK 2 (v:=?_) rfl ?_ hS ?_
              rotate_left
              ·intro W hSW
               have hkk:=HKK.out
               go_simp
               all_goals with_reducible rfl
              refine tX 3 rfl hS ?_
              go_simp
              refine tK 4 (v:=?_) rfl ?_ hS ?_
              rotate_left
              ·intro W hSW
               obtain ⟨c0x,c1x⟩:=HCE.out W (HBC.out.trans (hSW.mono HBC.out.size))
               have hkk:=HKK.out
               go_simp
               all_goals with_reducible rfl
              refine tX 5 rfl hS ?_
              refine tX 6 rfl hS ?_
              refine tX 7 rfl hS ?_
              go_simp
              refine tX 8 rfl hS ?_
              refine tK 9 (v:=?_) rfl ?_ hS ?_
              rotate_left
              ·intro W hSW
               have hkk:=HKK.out
               go_simp
               all_goals with_reducible rfl
              refine tX 10 rfl hS ?_
              refine tK 11 (v:=?_) rfl ?_ hS ?_
              rotate_left
              ·intro W hSW
               obtain ⟨c0x,c1x⟩:=HCE.out W (HBC.out.trans (hSW.mono HBC.out.size))
               have hkk:=HKK.out
               go_simp
               all_goals with_reducible rfl
              go_simp
              refine tX 12 rfl hS ?_
              refine tX 13 rfl hS ?_
              refine tX 14 rfl hS ?_
              refine tX 15 rfl hS ?_
              go_simp
              refine tX 16 rfl hS ?_
              refine tK 17 (v:=?_) rfl ?_ hS ?_
              rotate_left
              ·intro W hSW
               have hkk:=HKK.out
               go_simp
               all_goals with_reducible rfl
              refine tX 18 rfl hS ?_
              refine tK 19 (v:=?_) rfl ?_ hS ?_
              rotate_left
              ·intro W hSW
               obtain ⟨c0x,c1x⟩:=HCE.out W (HBC.out.trans (hSW.mono HBC.out.size))
               have hkk:=HKK.out
               go_simp
               all_goals with_reducible rfl
              go_simp
              refine tX 20 rfl hS ?_
              refine tX 21 rfl hS ?_
              refine tX 22 rfl hS ?_
              refine tX 23 rfl hS ?_
              go_simp
              refine tX 24 rfl hS ?_
              refine tK 25 (v:=?_) rfl ?_ hS ?_
              rotate_left
              ·intro W hSW
               have hkk:=HKK.out
               go_simp
               all_goals with_reducible rfl
              refine tX 26 rfl hS ?_
              refine tK 27 (v:=?_) rfl ?_ hS ?_
              rotate_left
              ·intro W hSW
               obtain ⟨c0x,c1x⟩:=HCE.out W (HBC.out.trans (hSW.mono HBC.out.size))
               have hkk:=HKK.out
               go_simp
               all_goals with_reducible rfl
              go_simp
              refine tX 28 rfl hS ?_
              refine tX 29 rfl hS ?_
              refine tX 30 rfl hS ?_
              refine tK 31 (v:=?_) rfl ?_ hS ?_
              rotate_left
              ·intro W hSW
               have hkk:=HKK.out
               go_simp
               all_goals with_reducible rfl
              go_simp
              refine tX 32 rfl hS ?_
              refine tK 33 (v:=?_) rfl ?_ hS ?_
              rotate_left
              ·intro W hSW
               obtain ⟨c0x,c1x⟩:=HCE.out W (HBC.out.trans (hSW.mono HBC.out.size))
               have hkk:=HKK.out
               go_simp
               all_goals with_reducible rfl
              refine tX 34 rfl hS ?_
              refine tX 35 rfl hS ?_
              go_simp
              refine tK 36 (v:=?_) rfl ?_ hS ?_
              rotate_left
              ·intro W hSW
               have hri:=HXR.out.1
               have hri2:=HXR.out.2
               go_simp
               all_goals with_reducible rfl
              refine tK 37 (v:=?_) rfl ?_ hS ?_
              rotate_left
              ·intro W hSW
               have yc:=(HRGW.out W (HBC.out.trans (hSW.mono HBC.out.size))).cell HRN.out
               go_simp
               all_goals with_reducible rfl
              refine tX 38 rfl hS ?_
              refine tX 39 rfl hS ?_
              go_simp
              refine tX 40 rfl hS ?_
              refine tX 41 rfl hS ?_
              go_simp
              refine wpAnyH_done (by kernel_rfl) ?_ _
              go_simp
              have HSM:=Hi hS
              clear hS
              go_wp2_with fail
              go_meet
              exact ⟨rfl,HSM.out⟩
            case rest =>
             obtain ⟨rfl,hS⟩:=hcut
             as_aux_lemma =>
              have HBE:=Hi (HBC.out.trans (hS.mono HBC.out.size))
              have HVE:=Hi (show BtAt wc.drew X x pn cn from AgAt.kept (AgAt.kept HVX.out hS) (Below.drew (Below.refl _ _)))
              have HPE:=Hi (HPX.out.kept hS)
              clear hS
              go_upto_region 34 with fail
              have HREF:=Hi (fun W (hW:Below wc.heap.size wc W)=>bref_any x pn cn W (HPE.out.kept hW) HOKX.out.cp.1 HOKX.out.cp.2)
              have HSX:sameT x (beOf (d.el xr.toNat) i).x=true:=(congrArg (sameT x) HBX.out).trans (sameT_refl x)
              have HSB:=Hi (fun W (hW:Below wc.heap.size wc W)=>show Bops W (beOf (d.el xr.toNat) i).x (beOf (d.el xr.toNat) i).p (beOf (d.el xr.toNat) i).c from ((((HRGW.out W (HBE.out.trans (hW.mono HBE.out.size))).row xr.toNat HRN.out).ops _ HMEM.out).bops))
              have HSAM:=Hi (same_yes x (beOf (d.el xr.toNat) i) wc HOKX.out.szs HSX HSB.out)
              clear HSX
              refine wp_region_held_drew (S:=fun W=>BtAt W X x pn cn∧Below wc.heap.size wc W) (by kernel_rfl) ⟨HVE.out,(Below.refl _ _).drew⟩ (fun hS=>?_)
              generalize wc.drew=wg at *
              refine tX 0 rfl hS ?_
              refine tX 1 rfl hS ?_
              refine tX 2 rfl hS ?_
              refine tX 3 rfl hS ?_
              go_simp
              refine tX 4 rfl hS ?_
              refine tX 5 rfl hS ?_
              go_simp
              refine tK 6 (v:=.agg (btA x pn cn)) rfl (fun W hSW=>exec_load_ag btP rfl rfl rfl hSW.1) hS ?_
              refine tX 8 rfl hS ?_
              refine tX 9 rfl hS ?_
              refine tX 10 rfl hS ?_
              go_simp
              refine tK 11 (v:=?_) rfl ?_ hS ?_
              rotate_left
              ·intro W hSW
               have hkk:=HKK.out
               go_simp
               all_goals with_reducible rfl
              refine tX 12 rfl hS ?_
              refine tK 13 (v:=?_) rfl ?_ hS ?_
              rotate_left
              ·intro W hSW
               obtain ⟨c0x,c1x⟩:=HCE.out W (HBE.out.trans (hSW.2.mono HBE.out.size))
               have hkk:=HKK.out
               go_simp
               all_goals with_reducible rfl
              refine tX 14 rfl hS ?_
              go_simp
              refine tX 15 rfl hS ?_
              refine tK 16 (v:=?_) rfl ?_ hS ?_
              rotate_left
              ·intro W hSW
               have hri:=HXR.out.1
               have hri2:=HXR.out.2
               go_simp
               all_goals with_reducible rfl
              refine tK 17 (v:=?_) rfl ?_ hS ?_
              rotate_left
              ·intro W hSW
               have yc:=(HRGW.out W (HBE.out.trans (hSW.2.mono HBE.out.size))).cell HRN.out
               rw [HQ.out] at yc
               go_simp
               all_goals with_reducible rfl
              refine tX 18 rfl hS ?_
              go_simp
              refine tX 19 rfl hS ?_
              refine tK 20 (v:=?_) rfl ?_ hS ?_
              rotate_left
              ·intro W hSW
               have hkk:=HKK.out
               go_simp
               all_goals with_reducible rfl
              refine tX 21 rfl hS ?_
              refine tK 22 (v:=?_) rfl ?_ hS ?_
              rotate_left
              ·intro W hSW
               obtain ⟨c0x,c1x⟩:=HCE.out W (HBE.out.trans (hSW.2.mono HBE.out.size))
               have hkk:=HKK.out
               go_simp
               all_goals with_reducible rfl
              go_simp
              refine tK 23 (v:=?_) rfl ?_ hS ?_
              rotate_left
              ·intro W hSW
               have he1:=E1.out
               have hw0:=W0.out
               go_simp
               all_goals with_reducible rfl
              refine tK 24 (v:=?_) rfl ?_ hS ?_
              rotate_left
              ·intro W hSW
               have hii:=HII.out
               go_simp
               all_goals with_reducible rfl
              go_simp
              refine tK 25 (v:=.agg (btA (beOf (d.el xr.toNat) i).x (beOf (d.el xr.toNat) i).p (beOf (d.el xr.toNat) i).c)) rfl (fun W hSW=>exec_load_beR btR rfl rfl _ (by have:=((HRGW.out W (HBE.out.trans (hSW.2.mono HBE.out.size))).row xr.toNat HRN.out).rd; rw [HQ.out] at this; exact this) HIL.out) hS ?_
              go_simp
              refine rD 7 rfl (fun K hK=>?_)
              go_simp
              go_wp2_with ((go_at_call 18; refine (HREF.out _ hS.2).mono ?_; rintro er w7 ⟨p7,c7,rfl,hp7,hb7⟩))
              have HP7:=Hi hp7
              refine hK.out _ _ ⟨AgAt.kept hS.1 hb7,hS.2.trans (hb7.mono hS.2.size)⟩ (fun hS=>?_)
              clear hK K hp7 hb7
              refine rD 26 rfl (fun K hK=>?_)
              go_simp
              go_wp2_with ((go_at_call 17; refine (HSAM.out _ hS.2 p7 c7 HP7.out.bops).mono ?_; rintro er w8 ⟨rfl,hb8⟩))
              refine hK.out _ _ ⟨AgAt.kept hS.1 hb8,hS.2.trans (hb8.mono hS.2.size)⟩ (fun hS=>?_)
              clear hK K hb8
              refine tX 27 rfl hS ?_
              refine tX 28 rfl hS ?_
              refine tX 29 rfl hS ?_
              go_simp
              refine wpAnyH_done (by kernel_rfl) ?_ _
              go_simp
              have HBF:=Hi (HBW.out.trans ((HBE.out.trans (hS.2.mono HBE.out.size)).mono HBW.out.size))
              clear hS
              go_wp2
              go_roundw
              case rel=>exact ⟨k+1,by omega,by go_num,HBF.out⟩
              case measure=>simp [intOf]; omega
         ·obtain rfl:k=one.length:=by omega
          have hd0:decide ((one.length:Int)<(one.length:Int))=false:=decide_eq_false (by omega)
          have HBR:=Hi (HBZ.out.trans (HBW.out.mono HBZ.out.size))
          go_wp2
          go_ret
          exact ⟨rfl,HBR.out⟩
    ·have d2:decide (30<(two.length:Int))=true:=decide_eq_true (by omega)
     clear h ho h2 ho2 HSZ1 HSZ2
     go_enter Tryz.func3,Tryz.ntmps3
     go_wp2_with fail
     refine (HLI1.out _ HB.out).mono ?_
     rintro e wl1 ⟨rfl,hb⟩
     have HBL1:=Hi (HB.out.trans (hb.mono HB.out.size))
     have HWL1:=Hi hb
     clear hb
     go_wp2_with fail
     refine (HLI2.out _ HBL1.out).mono ?_
     rintro e wl2 ⟨rfl,hb⟩
     have HBL2:=Hi (HBL1.out.trans (hb.mono HBL1.out.size))
     have HWL2:=Hi hb
     clear hb
     go_wp2_with fail
     refine (HKN.out _).mono ?_
     rintro e wk ⟨rfl,hbk⟩
     have HBK:=Hi (HBL2.out.trans (hbk.mono HBL2.out.size))
     clear hbk
     go_wp2
     go_ret
     exact ⟨rfl,HBK.out⟩
   ·have d1:decide (30<(one.length:Int))=true:=decide_eq_true (by omega)
    clear h ho h2 ho2 HSZ1 HSZ2
    go_enter Tryz.func3,Tryz.ntmps3
    go_wp2_with fail
    refine (HLI1.out _ HB.out).mono ?_
    rintro e wl1 ⟨rfl,hb⟩
    have HBL1:=Hi (HB.out.trans (hb.mono HB.out.size))
    have HWL1:=Hi hb
    clear hb
    go_wp2_with fail
    refine (HLI2.out _ HBL1.out).mono ?_
    rintro e wl2 ⟨rfl,hb⟩
    have HBL2:=Hi (HBL1.out.trans (hb.mono HBL1.out.size))
    have HWL2:=Hi hb
    clear hb
    go_wp2_with fail
    refine (HKN.out _).mono ?_
    rintro e wk ⟨rfl,hbk⟩
    have HBK:=Hi (HBL2.out.trans (hbk.mono HBL2.out.size))
    clear hbk
    go_wp2
    go_ret
    exact ⟨rfl,HBK.out⟩
end Go.Proofs.YtfgnmnkihbgjnaaGreat

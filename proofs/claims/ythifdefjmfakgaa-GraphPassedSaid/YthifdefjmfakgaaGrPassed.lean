/-
  GRAPHPASSED: the walk: an op that is passed over changes nothing; one that is done says where its node is, or what it points to.
  No conditions but sizes.
-/
import Derived.Test.YthifdefjmfakgaaSh
import Derived.Test.YthifdefjmfakgaaG7
import Derived.Test.YthifdefjmfakgaaGrBox
import Derived.Test.YthifdefjmfakgaaGrPassM
import Derived.Test.YthifdefjmfakgaaGrKnows
set_option maxRecDepth 100000
set_option maxHeartbeats 32000000
namespace Go.Proofs.Ythifdefjmfakgaa
open Go.RowKit
theorem lopT:AgT 32 12:=⟨⟨_,Try.underlying32⟩,by kernel_rfl⟩
theorem exec_build_wr {o:Oper} {a:Act} {w:World} (y:Operand) (ho:o.op=.build 34 #[(1,y)]) (x:Opp) (q:Option Addr) (c:Nat) (hy:a.eval y=.agg (opA x q c)):(execOp a.eval o).run Try.prog w=.ok (.value (.agg (wrA ⟨⟨(0,0),x⟩,q,c⟩))) w:=by
 have hr:(Instr.build 34 #[(1,.agg (opA x q c))]).run Try.prog w=.ok (.agg (wrA ⟨⟨(0,0),x⟩,q,c⟩)) w:=by kernel_rfl
 unfold execOp
 simp only [ho,Sem.run_bind,Sem.run_pure,Result.andThen_ok,List.map_toArray,List.map_cons,List.map_nil,hy,hr]
theorem wpList_build1G {SE E:TypeId} {ops:Array Oper} {rest:List Oper} {o:Oper} {a:Act} {w:World} {Q:Exit→Act→World→Prop} (hgd:Region.wanted o (yielded ops a.tmps)=true) (x:Operand) (ho:o.op=.buildSlice SE 1 #[(0,x)]) (A:Array Value) (hx:a.eval x=.agg A)
  (hr:∀ w:World,(Instr.buildSlice SE 1 #[(0,.agg A)]).run Try.prog w=.ok (.slice (some ⟨w.heap.size,0,none⟩) 1 1) (w.alloc (.cells A E)))
  (h:wpList Try.prog ops Q rest (a.put o.dst (.slice (some ⟨w.heap.size,0,none⟩) 1 1)) (w.alloc (.cells A E))):wpList Try.prog ops Q (o :: rest) a w:=by
 rw [wpList,if_pos hgd]
 exact Or.inl (wp_build1 x ho A hx hr h)
theorem exec_neq_stG {c:Act} {o:Oper} {x y:Operand} {ty:TypeId} (ho:o.op=.binOp .neq 27 x y ty) {w:World} (p q:Qm.St) (hx:c.eval x=snV p) (hy:c.eval y=snV q) :
  (execOp c.eval o).run Try.prog w=.ok (.value (.bool (!decide (p=q)))) w:=by
 obtain ⟨a,b⟩:=p
 obtain ⟨d,e⟩:=q
 unfold execOp
 simp only [ho,hx,hy]
 go_simp
 by_cases h1:a=d <;> by_cases h2:b=e <;> simp [h1,h2]
theorem GB2.insTop {w W:World} {gg hh:Nat} {ops ops':List Pm.Wr} {bs:Bxs} (x:Opp) (q:Option Addr) (c:Nat) (h:GB2 w gg ops hh ops' bs W) (hl:Gm.Low ops) (hs:Sz x) (ha:Pa W x q c) (hn:ops.length<60) :
  Calls Try.prog 8 #[ptV gg,.agg #[.int .i64 1099511627776,.int .i64 0],.agg (opA x q c)] W fun e w'=>e=.returned (.tuple #[.int .i64 0,.int .i64 (Gm.insE ops ⟨(1099511627776,0),x⟩)])∧GB2 w gg (Gm.insO ops ⟨(1099511627776,0),x⟩) hh ops' bs w' :=
 (GB2.ins 1099511627776 0 x q c h hs ha hn).mono fun _ _ ⟨h1,h2⟩=>⟨by rw [h1,hl.zero]; rfl,h2⟩
theorem run_build_trash (w:World):(Instr.build 27 #[(1,.int .i64 1)]).run Try.prog w=.ok (.agg #[.int .i64 0,.int .i64 1]) w:=by kernel_rfl
theorem run_build_zero (w:World):(Instr.build 27 #[]).run Try.prog w=.ok (.agg #[.int .i64 0,.int .i64 0]) w:=by kernel_rfl
theorem run_build_big (w:World):(Instr.build 27 #[(0,.int .i64 1099511627776)]).run Try.prog w=.ok (.agg #[.int .i64 1099511627776,.int .i64 0]) w:=by kernel_rfl
theorem opNodeQ {x:Opp} {q:Option Addr} {c:Nat}:∀ j v,[Value.int .i64 x.nt,.int .i64 x.nr][j]?=some v→(opA x q c)[1+j]?=some v:=fun j v h=>by
 match j,h with
 | 0,h=>exact h
 | 1,h=>exact h
theorem opRefQ {x:Opp} {q:Option Addr} {c:Nat}:∀ j v,[Value.int .i64 x.rt,.int .i64 x.rr][j]?=some v→(opA x q c)[3+j]?=some v:=fun j v h=>by
 match j,h with
 | 0,h=>exact h
 | 1,h=>exact h
theorem graphPassed_walk (p:Option Addr) (cl:Nat) (l:List WrE) (x:Opp) (q:Option Addr) (c:Nat) (w:World) (h:Ws w p l) (_:p=none→cl=0) (hp:Pa w x q c) :
  Calls Try.prog 4 #[.slice p l.length cl,.agg (opA x q c)] w fun e w'=>e=.returned (.bool true)∧Below w.heap.size w w':=by
 have HP0:=Hi hp
 have HR:=Hi h
 have hbs:∀ W:World,(Instr.buildSlice 22 1 #[(0,.agg (wrA ⟨⟨(0,0),x⟩,q,c⟩))]).run Try.prog W=.ok (.slice (some ⟨W.heap.size,0,none⟩) 1 1) (W.alloc (.cells (wrA ⟨⟨(0,0),x⟩,q,c⟩) 34)):=fun W=>by kernel_rfl
 have HBX:=Hi (AgAt.new w (opA x q c) 32)
 have HB:=Hi ((Below.refl w.heap.size w).alloc (Nat.le_refl _) (.cells (opA x q c) 32))
 have HLI:=Hi (light13_any p cl l _ (h.kept HB.out))
 have HLI2:=Hi (fun (W:World) (hb:Below w.heap.size w W)=>light13_any (some ⟨W.heap.size,0,none⟩) 1 [⟨⟨(0,0),x⟩,q,c⟩] (W.alloc (.cells (wrA ⟨⟨(0,0),x⟩,q,c⟩) 34)) ⟨rd_new1 (B:=0) (Below.refl _ W) ceW ⟨⟨(0,0),x⟩,q,c⟩ _,fun e' he'=>by rw [List.mem_singleton.1 he']; exact hp.kept (hb.alloc hb.size _)⟩)
 clear hp h
 go_enter Try.func4,Try.ntmps4
 go_wp2_with fail
 refine HLI.out.mono ?_
 rintro e1 w1 ⟨b1,rfl,hsm,hb1⟩
 have HSM1:=Hi hsm
 replace HBX:=Hi (HBX.out.kept hb1)
 replace HB:=Hi (HB.out.trans (hb1.mono HB.out.size))
 clear hsm hb1 HLI
 cases b1 with
 | false =>
  go_wp2_with fail
  refine (knows13_any _).mono ?_
  rintro e wk ⟨rfl,hbk⟩
  replace HB:=Hi (HB.out.trans (hbk.mono HB.out.size))
  clear hbk
  go_wp2
  go_ret
  exact ⟨rfl,HB.out⟩
 | true =>
  have HSM:=Hi (HSM1.out rfl).2
  have hl40:=(HSM1.out rfl).1
  have HL40:=Hi hl40
  clear HSM1
  have HLI3:=Hi (HLI2.out w1 HB.out)
  have HBA:=Hi ((Below.refl w1.heap.size w1).alloc (Nat.le_refl _) (.cells (wrA ⟨⟨(0,0),x⟩,q,c⟩) 34))
  clear HLI2
  go_wp2_with (first | (refine wpList_value (by kernel_rfl) (exec_load_ag lopT rfl rfl rfl HBX.out) ?_) | (refine wpList_value (by kernel_rfl) (exec_build_wr _ rfl x q c rfl) ?_) | (refine wpList_build1G (SE:=22) (E:=34) (by kernel_rfl) _ rfl (wrA ⟨⟨(0,0),x⟩,q,c⟩) rfl hbs ?_))
  refine HLI3.out.mono ?_
  rintro e1 w2 ⟨b2,rfl,hsm,hb2⟩
  have HSM2:=Hi hsm
  replace HBX:=Hi ((HBX.out.kept HBA.out).kept hb2)
  replace HB:=Hi (HB.out.trans ((HBA.out.trans (hb2.mono HBA.out.size)).mono HB.out.size))
  clear hsm hb2 HLI3 HBA hbs
  cases b2 with
  | false =>
   go_wp2_with fail
   refine (knows13_any _).mono ?_
   rintro e wk ⟨rfl,hbk⟩
   replace HB:=Hi (HB.out.trans (hbk.mono HB.out.size))
   clear hbk
   go_wp2
   go_ret
   exact ⟨rfl,HB.out⟩
  | true =>
   have HSX:=Hi ((HSM2.out rfl).2 ⟨⟨(0,0),x⟩,q,c⟩ (by simp))
   clear HSM2
   go_wp2_with fail
   refine (gnew_any w2).mono ?_
   rintro e w3 ⟨gg,χ,rfl,hg3,hb3,f3,-,-⟩
   have HG:=Hi (GB1.made (bs:=[(w.heap.size,opA x q c)]) HB.out (fun e he=>by rw [List.mem_singleton.1 he]; exact HBX.out) hg3 hb3 f3)
   clear hg3 hb3 f3 HB HBX
   go_wp2_with fail
   refine (knows13_any _).mono ?_
   rintro e w4 ⟨rfl,hbk⟩
   replace HG:=Hi (HG.out.kept hbk)
   clear hbk
   go_wp2
   go_loopw [6] (fun i wr=>∃ k:Nat,k≤l.length∧i=.int .i64 (k:Int)∧GB1 w gg (Gm.insAll (Gm.lowsG ((pl l).take k))) [(w.heap.size,opA x q c)] wr) (fun i _=>l.length - (intOf i).toNat)
   case atStart=>exact ⟨0,Nat.zero_le _,rfl,HG.out⟩
   case round =>
    clear HG
    obtain ⟨k,hk,rfl,hg⟩:=hrel
    have HG:=Hi hg
    clear hg
    by_cases hlt:k<l.length
    ·have d0:decide ((k:Int)<(l.length:Int))=true:=decide_eq_true (by omega)
     obtain ⟨b,o,hbo,-⟩:=HR.out.rd.addr (by rw [wrK.length]; omega)
     subst hbo
     obtain ⟨e,he⟩:∃ e,l[k]?=some e:=⟨_,List.getElem?_eq_getElem hlt⟩
     obtain ⟨⟨⟨s1,s2⟩,y⟩,qq,cc⟩:=e
     have HE:=Hi he
     have HPE:=Hi ((HR.out.pa _ (List.mem_of_getElem? he)).kept HG.out.bel)
     have HS1:=Hi (HSM.out _ (List.mem_of_getElem? he))
     have HTK:=Hi (pl_take he)
     have HFW:=Hi (show (Gm.insAll (Gm.lowsG ((pl l).take k))).length<60 from by
      have h1:=Gm.len_all (Gm.lowsG ((pl l).take k))
      have h2:=Gm.lowsG_len ((pl l).take k)
      rw [List.length_take] at h2
      omega)
     have hrg:=wrK.range (HR.out.rd.below HG.out.bel) he
     have y0:wr.cell? ⟨b,o+k * 14,none⟩=some (.int .i64 s1):=hrg 0 _ rfl
     clear hrg he
     by_cases hs:s1<549755813888
     ·have d1:decide (s1<549755813888)=true:=decide_eq_true hs
      have HAG:=Hi (show Gm.insO (Gm.insAll (Gm.lowsG ((pl l).take k))) ⟨(s1,s2),y⟩=Gm.insAll (Gm.lowsG ((pl l).take (k+1))) from by
       rw [HTK.out,Gm.lowsG_yes hs,Gm.insAll_snoc])
      go_upto_region 10 with fail
      refine wp_region_held_drew (S:=fun W=>Rd W (some ⟨b,o,none⟩) (l.flatMap ceW)) (by kernel_rfl) ((HR.out.rd.below HG.out.bel).below (Below.drew (Below.refl _ _))) (fun hS=>?_)
      refine tX 0 rfl hS ?_
      refine tX 1 rfl hS ?_
      refine tX 2 rfl hS ?_
      refine tX 3 rfl hS ?_
      go_simp
      refine tX 4 rfl hS ?_
      go_simp
      refine tK 5 (v:=.agg #[.int .i64 s1,.int .i64 s2]) rfl (fun W hSW=>exec_wr_st rfl rfl hSW HE.out) hS ?_
      refine tX 6 rfl hS ?_
      refine tX 7 rfl hS ?_
      refine tX 8 rfl hS ?_
      go_simp
      refine tX 9 rfl hS ?_
      go_simp
      refine tK 10 (v:=.agg (opA y qq cc)) rfl (fun W hSW=>exec_wr_op rfl rfl hSW HE.out) hS ?_
      go_simp
      refine rD 11 rfl (fun K hK=>?_)
      go_simp
      go_wp2_with ((go_at_call 9; refine (ownN_any y qq cc _ (HPE.out.kept (Below.drew (Below.refl _ _))) (by have:=HS1.out.1; omega)).mono ?_; rintro e wn ⟨q2,c2,rfl,hpa,hbn,-⟩))
      have HG2:=Hi ((HG.out.kept (Below.drew (Below.refl _ _))).kept hbn)
      refine hK.out _ _ (hS.below hbn) (fun hS=>?_)
      clear hK K hbn
      refine rD 12 rfl (fun K hK=>?_)
      go_simp
      go_wp2_with ((go_at_call 8; refine (GB1.ins s1 s2 y q2 c2 HG2.out HS1.out.sz hpa HFW.out).mono ?_; rintro e wm ⟨rfl,hgm⟩))
      have HGM:=Hi hgm
      refine hK.out _ _ (HR.out.rd.below HGM.out.bel) (fun hS=>?_)
      clear hK K hpa hgm
      refine wpAnyH_done (by kernel_rfl) ?_ _
      go_simp
      clear hS HG2 HG
      rw [HAG.out] at HGM
      go_wp2
      go_roundw
      case rel=>exact ⟨k+1,by omega,by go_num,HGM.out⟩
      case measure=>simp [intOf]; omega
     ·have d1:decide (s1<549755813888)=false:=decide_eq_false hs
      have HAG:=Hi (show Gm.insAll (Gm.lowsG ((pl l).take k))=Gm.insAll (Gm.lowsG ((pl l).take (k+1))) from by
       rw [HTK.out,Gm.lowsG_no hs])
      rw [HAG.out] at HG
      go_wp2
      go_roundw
      case rel=>exact ⟨k+1,by omega,by go_num,HG.out⟩
      case measure=>simp [intOf]; omega
    ·obtain rfl:k=l.length:=by omega
     have d0:decide ((l.length:Int)<(l.length:Int))=false:=decide_eq_false (by omega)
     have HTA:=Hi (show (pl l).take l.length=pl l from List.take_of_length_le (by rw [pl_len]; exact Nat.le_refl _))
     rw [HTA.out] at HG
     have HLOW:=Hi (Gm.low_lows (pl l))
     have HFW:=Hi (show (Gm.insAll (Gm.lowsG (pl l))).length<60 from by
      have h1:=Gm.len_all (Gm.lowsG (pl l))
      have h2:=Gm.lowsG_len (pl l)
      rw [pl_len] at h2
      omega)
     clear HTA hlt hk
     generalize Gm.insAll (Gm.lowsG (pl l))=ops at *
     go_wp2_with fail
     refine (GB1.clone HG.out).mono ?_
     rintro e w5 ⟨hh,rfl,hg⟩
     replace HG:=Hi hg
     clear hg
     have hbig:=run_build_big
     go_upto_region 13 with (refine wpList_store_newag stT rfl _ _ rfl rfl _ (A:=stA (1099511627776,0)) rfl rfl rfl (stA_one _ _) ?_; intro w6 hv6 hb6)
     obtain ⟨bs,hbs⟩:∃ b,b=w5.heap.size:=⟨_,rfl⟩
     rw [← hbs] at hv6 ⊢
     replace HG:=Hi (HG.out.box hb6 hv6 (Nat.le_of_eq hbs.symm))
     clear hv6 hb6 hbs hbig
     go_upto_region 13 with fail
     refine wp_region_held_drew (S:=fun W=>AgAt W w.heap.size (opA x q c)∧AgAt W bs (stA (1099511627776,0))) (by kernel_rfl) ⟨(HG.out.kept (Below.drew (Below.refl _ _))).at_ (by simp),(HG.out.kept (Below.drew (Below.refl _ _))).at_ (by simp)⟩ (fun hS=>?_)
     refine tX 0 rfl hS ?_
     go_simp
     refine tK 1 (v:=.agg #[.int .i64 1099511627776,.int .i64 0]) rfl (fun W hSW=>exec_load_ag stT rfl rfl rfl hSW.2) hS ?_
     go_simp
     refine tK 2 (v:=.agg (opA x q c)) rfl (fun W hSW=>exec_load_ag lopT rfl rfl rfl hSW.1) hS ?_
     go_simp
     refine rD 3 rfl (fun K hK=>?_)
     go_simp
     go_wp2_with ((go_at_call 9; refine (ownN_any x q c _ (HP0.out.kept (HG.out.bel.drew)) (by have:=HSX.out.1; omega)).mono ?_; rintro e wn ⟨q2,c2,rfl,hpa,hbn,-⟩))
     have HG2:=Hi ((HG.out.kept (Below.drew (Below.refl _ _))).kept hbn)
     refine hK.out _ _ ⟨HG2.out.at_ (by simp),HG2.out.at_ (by simp)⟩ (fun hS=>?_)
     clear hK K hbn
     refine rD 4 rfl (fun K hK=>?_)
     go_simp
     go_wp2_with ((go_at_call 8; refine (GB2.insTop x q2 c2 HG2.out HLOW.out HSX.out.sz hpa HFW.out).mono ?_; rintro e wm ⟨rfl,hgm⟩))
     have HGM:=Hi hgm
     refine hK.out _ _ ⟨HGM.out.at_ (by simp),HGM.out.at_ (by simp)⟩ (fun hS=>?_)
     clear hK K hpa hgm
     refine tX 5 rfl hS ?_
     refine tX 6 rfl hS ?_
     refine tX 7 rfl hS ?_
     refine tX 8 rfl hS ?_
     go_simp
     refine tX 9 rfl hS ?_
     go_simp
     refine wpAnyH_done (by kernel_rfl) ?_ _
     go_simp
     clear hS HG2 HG
     obtain ⟨E,hE⟩:∃ E,E=Gm.insE ops ⟨(1099511627776,0),x⟩:=⟨_,rfl⟩
     have HEE:=Hi hE
     rw [← hE]
     have HER:=Hi (show E=0∨E=1∨E=42 from by rw [hE]; exact HLOW.out.err)
     have HG:=Hi HGM.out
     clear hE HGM
     rcases HER.out with hz | hz | hz
     ·subst hz
      go_wp2_with fail
      refine (num13_any 0 _).mono ?_
      rintro e wn ⟨rfl,rfl⟩
      have HTB:=Hi (HG.out.at_ (b:=bs) (A:=stA (1099511627776,0)) (by simp))
      go_wp2_with (refine wpList_load_ag stT (by kernel_rfl) _ rfl _ rfl (A:=stA (1099511627776,0)) rfl HTB.out ?_)
      refine (GB2.done 1099511627776 0 HG.out).mono ?_
      rintro e w8 ⟨d,rfl,hd,hg⟩
      have HD:=Hi hd
      replace HG:=Hi hg
      clear hd hg HTB
      cases d with
      | false =>
       have HBAD:=Hi (HLOW.out.bad (x:=x) (Or.inr fun h=>by cases HD.out.2 h))
       clear HEE HLOW HD
       go_wp2_with fail
       refine (GB2.same HG.out HBAD.out).mono ?_
       rintro e w8 ⟨rfl,hg⟩
       have HE:=Hi hg.bel
       clear hg HG HBAD
       go_wp2
       go_ret
       exact ⟨rfl,HE.out⟩
      | true =>
       have HSAY:=Hi (HLOW.out.says (x:=x) HEE.out.symm (HD.out.1 rfl))
       have HXB:=Hi (HG.out.at_ (b:=w.heap.size) (A:=opA x q c) (by simp))
       have HTB:=Hi (HG.out.at_ (b:=bs) (A:=stA (1099511627776,0)) (by simp))
       clear HD HEE HLOW
       rcases HSAY.out.kind with hk | hk | hk
       ·have y0:w8.cell? ⟨w.heap.size,0,none⟩=some (.int .i64 1):=by rw [← hk]; exact (AgAt.cell HXB.out 0).trans rfl
        have HV:=Hi (HSAY.out.create hk)
        have HWR:=Hi (show StWf (x.rt,x.rr) from (rightSp_wf (Gm.right_create HSAY.out.ok hk)).1)
        obtain ⟨hb,hhb⟩:∃ hb,hb=Gm.has (Gm.run ops) (x.rt,x.rr):=⟨_,rfl⟩
        have HHB:=Hi hhb
        obtain ⟨pr,hpr⟩:∃ pr:Qm.St,pr=if hb=true then (x.rt,x.rr) else (0,1):=⟨_,rfl⟩
        obtain ⟨p1,p2⟩:=pr
        have HPR:=Hi hpr
        have HV2:=Hi (show (Gm.run (Gm.insO ops ⟨(1099511627776,0),x⟩)).s (1099511627776,0)=some ((p1,p2),x.key) from by rw [HV.out,HPR.out,HHB.out]; rfl)
        clear hk hhb hpr HV HSAY
        go_wp2_with (refine wpList_load_ag stT (by kernel_rfl) _ rfl _ rfl (A:=stA (1099511627776,0)) rfl HTB.out ?_)
        refine (GB2.spot 1099511627776 0 HG.out (by unfold StWf; decide) HV2.out).mono ?_
        rintro e w9 ⟨rfl,hg⟩
        replace HG:=Hi hg
        clear hg y0 HTB HXB HV2
        go_upto_region 19 with (refine wpList_store_newag spT rfl _ _ rfl rfl _ (A:=spA ((p1,p2),x.key)) rfl rfl rfl (spA_one _) ?_; intro w10 hv10 hb10)
        obtain ⟨bz,hbz⟩:∃ b,b=w9.heap.size:=⟨_,rfl⟩
        rw [← hbz] at hv10 ⊢
        replace HG:=Hi (HG.out.box hb10 hv10 (Nat.le_of_eq hbz.symm))
        clear hv10 hb10 hbz
        have HXB:=Hi (HG.out.at_ (b:=w.heap.size) (A:=opA x q c) (by simp))
        go_upto_region 20 with (first | (refine wpList_value (by kernel_rfl) (exec_load_part stT rfl rfl [.int .i64 x.rt,.int .i64 x.rr] rfl HXB.out opRefQ) ?_) | (refine wpList_store_newag stT rfl _ _ rfl rfl _ (A:=stA (x.rt,x.rr)) rfl rfl rfl (stA_one _ _) ?_; intro w11 hv11 hb11))
        obtain ⟨bp,hbp⟩:∃ b,b=w10.heap.size:=⟨_,rfl⟩
        rw [← hbp] at hv11 ⊢
        have HPB0:=Hi hv11
        have HWP:=Hi (show w.heap.size≤bp from by rw [hbp]; exact HG.out.bel.size)
        have HXG:=Hi (fun b' A (hm:(b',A) ∈ [(bz,spA ((p1,p2),x.key)),(bs,stA (1099511627776,0)),(w.heap.size,opA x q c)])=>HG.out.at_ hm)
        replace HG:=Hi (HG.out.box hb11 hv11 (Nat.le_of_eq hbp.symm))
        have HBB:=Hi (show ∀ b' A,(b',A) ∈ [(bz,spA ((p1,p2),x.key)),(bs,stA (1099511627776,0)),(w.heap.size,opA x q c)]→b'≠bp from fun b' A hm=>by
         have h1:=AgAt.lt (HXG.out b' A hm)
         omega)
        clear hv11 hb11 hbp HXB
        go_wp2_with (refine wpList_load_ag stT (by kernel_rfl) _ rfl _ rfl (A:=stA (x.rt,x.rr)) rfl HPB0.out ?_)
        refine (GB2.hasB x.rt x.rr HG.out HWR.out).mono ?_
        rw [← HHB.out]
        rintro e w12 ⟨rfl,hg⟩
        replace HG:=Hi hg
        clear hg HPB0 HHB
        cases hb with
        | true =>
         have HPP:=Hi (show ((p1,p2):Qm.St)=(x.rt,x.rr) from HPR.out)
         have HPB:=Hi (show AgAt w12 bp (stA (p1,p2)) from by rw [HPP.out]; exact HG.out.at_ (by simp))
         clear HPR HPP HBB
         go_upto_region 22 with fail
         have HXB:=Hi (HG.out.at_ (b:=w.heap.size) (A:=opA x q c) (by simp))
         have HZB:=Hi (HG.out.at_ (b:=bz) (A:=spA ((p1,p2),x.key)) (by simp))
         have HQ:=Hi (show decide (((p1,p2):Qm.St)=(p1,p2))=true from decide_eq_true rfl)
         have y1:w12.cell? ⟨bz,2,none⟩=some (.string x.key):=(AgAt.cell HZB.out 2).trans rfl
         have y2:w12.cell? ⟨w.heap.size,5,none⟩=some (.string x.key):=(AgAt.cell HXB.out 5).trans rfl
         have HBE:=Hi HG.out.bel
         clear HG
         go_wp2_with (first | (refine wpList_value (by kernel_rfl) (exec_load_part stT rfl rfl [.int .i64 p1,.int .i64 p2] rfl HZB.out (spPar (s:=((p1,p2),x.key)))) ?_) | (refine wpList_value (by kernel_rfl) (exec_load_ag stT rfl rfl (A:=stA (p1,p2)) rfl HPB.out) ?_) | (refine wpList_value (by kernel_rfl) (exec_eql_st rfl (p1,p2) (p1,p2) rfl rfl) ?_; rw [HQ.out]))
         go_ret
         exact ⟨rfl,HBE.out⟩
        | false =>
         have HPP:=Hi (show ((p1,p2):Qm.St)=(0,1) from HPR.out)
         have HPB1:=Hi (HG.out.at_ (b:=bp) (A:=stA (x.rt,x.rr)) (by simp))
         have hbt:=run_build_trash
         clear HPR
         go_upto_region 22 with (refine wpList_store_ag stT rfl _ _ rfl _ rfl _ HPB1.out rfl rfl rfl (stA_one 0 1) ?_; intro w13 hv13 hko13 hsz13 hbn13)
         have HPB:=Hi (show AgAt w13 bp (stA (p1,p2)) from by rw [HPP.out]; exact hv13)
         have HXB:=Hi (AgAt.block (HG.out.at_ (b:=w.heap.size) (A:=opA x q c) (by simp)) (hko13 _ (HBB.out w.heap.size (opA x q c) (by simp))))
         have HZB:=Hi (AgAt.block (HG.out.at_ (b:=bz) (A:=spA ((p1,p2),x.key)) (by simp)) (hko13 _ (HBB.out bz (spA ((p1,p2),x.key)) (by simp))))
         have HBE:=Hi (hbn13 _ _ HG.out.bel HWP.out)
         clear hv13 hko13 hsz13 hbn13 hbt HG
         have HQ:=Hi (show decide (((p1,p2):Qm.St)=(p1,p2))=true from decide_eq_true rfl)
         have y1:w13.cell? ⟨bz,2,none⟩=some (.string x.key):=(AgAt.cell HZB.out 2).trans rfl
         have y2:w13.cell? ⟨w.heap.size,5,none⟩=some (.string x.key):=(AgAt.cell HXB.out 5).trans rfl
         go_wp2_with (first | (refine wpList_value (by kernel_rfl) (exec_load_part stT rfl rfl [.int .i64 p1,.int .i64 p2] rfl HZB.out (spPar (s:=((p1,p2),x.key)))) ?_) | (refine wpList_value (by kernel_rfl) (exec_load_ag stT rfl rfl (A:=stA (p1,p2)) rfl HPB.out) ?_) | (refine wpList_value (by kernel_rfl) (exec_eql_st rfl (p1,p2) (p1,p2) rfl rfl) ?_; rw [HQ.out]))
         go_ret
         exact ⟨rfl,HBE.out⟩
       ·have y0:w8.cell? ⟨w.heap.size,0,none⟩=some (.int .i64 2):=by rw [← hk]; exact (AgAt.cell HXB.out 0).trans rfl
        have HV:=Hi (HSAY.out.move hk)
        have HWR:=Hi (show StWf (x.nt,x.nr) from okN_wf (Gm.right_move HSAY.out.ok hk).1)
        clear hk HSAY
        go_wp2_with (refine wpList_value (by kernel_rfl) (exec_load_part stT rfl rfl [.int .i64 x.nt,.int .i64 x.nr] rfl HXB.out opNodeQ) ?_)
        refine (GB2.spot x.nt x.nr HG.out HWR.out HV.out).mono ?_
        rintro e w9 ⟨rfl,hg⟩
        replace HG:=Hi hg
        clear hg y0 HTB HXB HV
        go_upto_region 25 with (refine wpList_store_newag spT rfl _ _ rfl rfl _ (A:=spA ((x.rt,x.rr),x.key)) rfl rfl rfl (spA_one _) ?_; intro w10 hv10 hb10)
        obtain ⟨bz,hbz⟩:∃ b,b=w9.heap.size:=⟨_,rfl⟩
        rw [← hbz] at hv10 ⊢
        replace HG:=Hi (HG.out.box hb10 hv10 (Nat.le_of_eq hbz.symm))
        clear hv10 hb10 hbz
        have HXB:=Hi (HG.out.at_ (b:=w.heap.size) (A:=opA x q c) (by simp))
        have HZB:=Hi (HG.out.at_ (b:=bz) (A:=spA ((x.rt,x.rr),x.key)) (by simp))
        have HQ:=Hi (show decide (((x.rt,x.rr):Qm.St)=(x.rt,x.rr))=true from decide_eq_true rfl)
        have y1:w10.cell? ⟨bz,2,none⟩=some (.string x.key):=(AgAt.cell HZB.out 2).trans rfl
        have y2:w10.cell? ⟨w.heap.size,5,none⟩=some (.string x.key):=(AgAt.cell HXB.out 5).trans rfl
        have HBE:=Hi HG.out.bel
        clear HG
        go_wp2_with (first | (refine wpList_value (by kernel_rfl) (exec_load_part stT rfl rfl [.int .i64 x.rt,.int .i64 x.rr] rfl HZB.out (spPar (s:=((x.rt,x.rr),x.key)))) ?_) | (refine wpList_value (by kernel_rfl) (exec_load_part stT rfl rfl [.int .i64 x.rt,.int .i64 x.rr] rfl HXB.out opRefQ) ?_) | (refine wpList_value (by kernel_rfl) (exec_eql_st rfl (x.rt,x.rr) (x.rt,x.rr) rfl rfl) ?_; rw [HQ.out]))
        go_ret
        exact ⟨rfl,HBE.out⟩
       ·have y0:w8.cell? ⟨w.heap.size,0,none⟩=some (.int .i64 5):=by rw [← hk]; exact (AgAt.cell HXB.out 0).trans rfl
        have HV:=Hi (HSAY.out.point hk)
        have HWR:=Hi (show StWf (x.nt,x.nr) from okN_wf (Gm.right_point HSAY.out.ok hk).1)
        have HRM:=Hi (show ((Gm.run (Gm.insO ops ⟨(1099511627776,0),x⟩)).m (x.nt,x.nr)).getD (0,0)=(x.rt,x.rr)∧((Gm.run (Gm.insO ops ⟨(1099511627776,0),x⟩)).m (x.nt,x.nr)).isSome = !decide (((x.rt,x.rr):Qm.St)=(0,0)) from by
         have h1:(Gm.run (Gm.insO ops ⟨(1099511627776,0),x⟩)).m (x.nt,x.nr)=if ((x.rt,x.rr):Qm.St)=(0,0) then none else some (x.rt,x.rr):=HV.out
         rw [h1]
         by_cases hz:((x.rt,x.rr):Qm.St)=(0,0)
         ·rw [if_pos hz,hz]; exact ⟨rfl,rfl⟩
         ·rw [if_neg hz,decide_eq_false hz]; exact ⟨rfl,rfl⟩)
        clear hk HSAY HV
        go_wp2_with (refine wpList_value (by kernel_rfl) (exec_load_part stT rfl rfl [.int .i64 x.nt,.int .i64 x.nr] rfl HXB.out opNodeQ) ?_)
        refine (GB2.ref x.nt x.nr HG.out HWR.out).mono ?_
        rw [HRM.out.1,HRM.out.2]
        rintro e w9 ⟨rfl,hg⟩
        replace HG:=Hi hg
        obtain ⟨zb,hzb⟩:∃ zb,zb=decide (((x.rt,x.rr):Qm.St)=(0,0)):=⟨_,rfl⟩
        rw [← hzb]
        have HZZ:=Hi hzb
        clear hg y0 HTB HXB HRM hzb
        go_upto_region 27 with (refine wpList_store_newag stT rfl _ _ rfl rfl _ (A:=stA (x.rt,x.rr)) rfl rfl rfl (stA_one _ _) ?_; intro w10 hv10 hb10)
        obtain ⟨bz,hbz⟩:∃ b,b=w9.heap.size:=⟨_,rfl⟩
        rw [← hbz] at hv10 ⊢
        replace HG:=Hi (HG.out.box hb10 hv10 (Nat.le_of_eq hbz.symm))
        have HZB:=Hi hv10
        clear hv10 hb10 hbz
        have HXB:=Hi (HG.out.at_ (b:=w.heap.size) (A:=opA x q c) (by simp))
        have HQ:=Hi (show decide (((x.rt,x.rr):Qm.St)=(x.rt,x.rr))=true from decide_eq_true rfl)
        have HBE:=Hi HG.out.bel
        have hbz:=run_build_zero
        clear HG
        cases zb with
        | true =>
         go_wp2_with (first | (refine wpList_value (by kernel_rfl) (exec_load_part stT rfl rfl [.int .i64 x.rt,.int .i64 x.rr] rfl HXB.out opRefQ) ?_) | (refine wpList_value (by kernel_rfl) (exec_neq_stG rfl (x.rt,x.rr) (0,0) rfl rfl) ?_; rw [← HZZ.out]) | (refine wpList_value (by kernel_rfl) (exec_load_ag stT rfl rfl (A:=stA (x.rt,x.rr)) rfl HZB.out) ?_) | (refine wpList_value (by kernel_rfl) (exec_eql_st rfl (x.rt,x.rr) (x.rt,x.rr) rfl rfl) ?_; rw [HQ.out]))
         go_ret
         exact ⟨rfl,HBE.out⟩
        | false =>
         go_wp2_with (first | (refine wpList_value (by kernel_rfl) (exec_load_part stT rfl rfl [.int .i64 x.rt,.int .i64 x.rr] rfl HXB.out opRefQ) ?_) | (refine wpList_value (by kernel_rfl) (exec_neq_stG rfl (x.rt,x.rr) (0,0) rfl rfl) ?_; rw [← HZZ.out]) | (refine wpList_value (by kernel_rfl) (exec_load_ag stT rfl rfl (A:=stA (x.rt,x.rr)) rfl HZB.out) ?_) | (refine wpList_value (by kernel_rfl) (exec_eql_st rfl (x.rt,x.rr) (x.rt,x.rr) rfl rfl) ?_; rw [HQ.out]))
         go_ret
         exact ⟨rfl,HBE.out⟩
     ·subst hz
      have HBAD:=Hi (HLOW.out.bad (x:=x) (Or.inl (by rw [← HEE.out]; decide)))
      clear HEE HLOW
      go_wp2_with fail
      refine (num13_any 1 _).mono ?_
      rintro e wn ⟨rfl,rfl⟩
      go_wp2_with fail
      refine (GB2.same HG.out HBAD.out).mono ?_
      rintro e w8 ⟨rfl,hg⟩
      have HE:=Hi hg.bel
      clear hg HG HBAD
      go_wp2
      go_ret
      exact ⟨rfl,HE.out⟩
     ·subst hz
      have HBAD:=Hi (HLOW.out.bad (x:=x) (Or.inl (by rw [← HEE.out]; decide)))
      clear HEE HLOW
      go_wp2_with fail
      refine (num13_any 42 _).mono ?_
      rintro e wn ⟨rfl,rfl⟩
      go_wp2_with fail
      refine (GB2.same HG.out HBAD.out).mono ?_
      rintro e w8 ⟨rfl,hg⟩
      have HE:=Hi hg.bel
      clear hg HG HBAD
      go_wp2
      go_ret
      exact ⟨rfl,HE.out⟩
end Go.Proofs.Ythifdefjmfakgaa

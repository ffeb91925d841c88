/-
  THE DOCUMENT'S LOG: Entries.
  No conditions but sizes.
-/
import Derived.Test.YtfgnmnkihbgjnaaGreatSh
import Derived.Test.YtfgnmnkihbgjnaaGreatRgWith
set_option maxRecDepth 100000
set_option maxHeartbeats 16000000
namespace Go.Proofs.YtfgnmnkihbgjnaaGreat
open Go.RowKit
theorem beOf_mp {l:List Be} {i:Nat} (h:i<l.length):(l.map (·.x))[i]'(by simpa using h)=(beOf l i).x:=by simp [beOf,h]
structure ReE (L:Lg) (P:List Ent) (w:World) (p:Option Addr) (c:Nat) (lo:List Ee) (wr:World):Prop where
 en:EnD L P lo
 rd:Rd wr p (eeCells lo)
 nil:p=none→c=0
 cap:lo.length≤c
 pa:∀ x,x ∈ lo→Pa w x.y x.q x.c
 bel:Below w.heap.size w wr
theorem ReE.kept {L:Lg} {P:List Ent} {w wr w':World} {p:Option Addr} {c:Nat} {lo:List Ee} (h:ReE L P w p c lo wr) (hb:Below wr.heap.size wr w'):ReE L P w p c lo w' :=
 ⟨h.en,h.rd.below hb,h.nil,h.cap,h.pa,h.bel.trans (hb.mono h.bel.size)⟩
def REnts (L:Lg) (w:World) (e:Ending) (w':World):Prop :=
 ∃ p c lo,e=.returned (.slice p lo.length c)∧EnD L (entA L) lo∧Rd w' p (eeCells lo)∧(∀ x,x ∈ lo→Pa w' x.y x.q x.c)∧Below w.heap.size w w'
theorem rgents_any {R:Nat} {m:Rm} {F:Nat→Prop} (w:World) (h:Rg w R m F) (ho:LgOk m.lg) (hn:(entA m.lg).length≤1500) :
  Calls Tryz.prog 49 #[.pointer (some ⟨R,0,none⟩)] w (REnts m.lg w):=by
 have HR:=Hi (fun W (hW:Below w.heap.size w W)=>h.kept hW)
 have HL:=Hi (fun (k:Nat) (hk:k<16)=>Rm.len ho hk)
 have HRG:=Hi ho.right
 have HNE:=Hi hn
 clear h ho hn
 go_enter Tryz.func49,Tryz.ntmps49
 go_wp2
 go_loopw [3,4] (fun v i wr=>∃ (k:Nat) (p:Option Addr) (c:Nat) (lo:List Ee),k≤16∧i=.int .i64 (k:Int)∧v=.slice p lo.length c∧ReE m.lg (preEn m.lg k) w p c lo wr) (fun _ i _=>16 - (intOf i).toNat)
 case atStart=>exact ⟨0,none,0,[],by omega,rfl,rfl,by simpa [preEn] using EnD.start m.lg,Rd.nil _ _,fun _=>rfl,Nat.le_refl _,fun _ h=>(by cases h),Below.refl _ _⟩
 case round =>
  obtain ⟨k,p,c,lo,hk,rfl,rfl,ht⟩:=hrel
  have T:=Hi ht
  clear ht
  by_cases hlt:k<16
  ·have hri:(k:Int)<16:=by omega
   have hl5:=HL.out k hlt
   have HLG:=Hi (show m.lg.row k=(m.el k).map (·.x) from rfl)
   go_wp2
   go_loopw [3,5] (fun v i wr=>∃ (q:Nat) (p:Option Addr) (c:Nat) (lo:List Ee),q≤(m.el k).length∧i=.int .i64 (q:Int)∧v=.slice p lo.length c∧ReE m.lg (preEn m.lg k ++ entR ((m.lg.row k).take q)) w p c lo wr) (fun _ i _=>(m.el k).length - (intOf i).toNat)
   case atStart=>exact ⟨0,p,c,lo,Nat.zero_le _,rfl,rfl,by simpa [entR] using T.out⟩
   case round =>
    clear T
    obtain ⟨q,p,c,lo,hq,rfl,rfl,ht⟩:=hrel
    have T:=Hi ht
    clear ht
    have yc:=(HR.out _ T.out.bel).cell hlt
    by_cases hql:q<(m.el k).length
    ·have hd0:decide ((q:Int)<((m.el k).length:Int))=true:=decide_eq_true (by omega)
     obtain ⟨b,hqq,-⟩:=rob_cells ((HR.out _ T.out.bel).row k hlt) hql
     have HRD:=Hi ((HR.out _ T.out.bel).row k hlt).rd
     rw [hqq] at HRD yc
     have HQL:=Hi hql
     have hql2:(q:Int)<((m.el k).length:Int):=by omega
     have HOK:=Hi (HRG.out k hlt _ (List.mem_map.2 ⟨_,beOf_mem hql,rfl⟩))
     obtain ⟨l0,hl0⟩:=(((HR.out w (Below.refl _ _)).row k hlt).ops _ (beOf_mem hql)).bops
     have HOS:=Hi (fun W (hW:Below w.heap.size w W)=>hl0.kept hW)
     have hgx:(m.lg.row k)[q]'(by rw [HLG.out,List.length_map]; exact hql)=(beOf (m.el k) q).x:=beOf_mp hql
     have HAT:=Hi (fun (j:Nat) (hj:j<(beOf (m.el k) q).x.ops.length)=>show ∃ t,entA m.lg=(preEn m.lg k ++ entR ((m.lg.row k).take q) ++ (entB (beOf (m.el k) q).x).take j) ++ [(((beOf (m.el k) q).x.t+(j:Int),(beOf (m.el k) q).x.r),opOf (beOf (m.el k) q).x.ops j)] ++ t from by
      have:=entA_at m.lg hlt (k:=q) (m:=j) (by rw [HLG.out,List.length_map]; exact hql) (by rw [hgx]; exact hj)
      rw [hgx] at this
      exact this)
     have HSC:=Hi (show preEn m.lg k ++ entR ((m.lg.row k).take (q+1))=preEn m.lg k ++ entR ((m.lg.row k).take q) ++ entB (beOf (m.el k) q).x from by
      rw [entR_succ _ _ (by rw [HLG.out,List.length_map]; exact hql),hgx,List.append_assoc])
     clear hgx hl0
     generalize hxx:beOf (m.el k) q=y at *
     have HXX:=Hi hxx
     clear hxx
     obtain ⟨x,pb,cb⟩:=y
     dsimp only at *
     generalize hpe:preEn m.lg k ++ entR ((m.lg.row k).take q)=PP at *
     go_wp2_with (first | (refine wpList_load_be0 btR rfl _ rfl b q rfl (m.el k) HRD.out HQL.out ?_; rw [HXX.out]) | (refine wpList_store_newag btR rfl _ _ rfl rfl _ rfl rfl rfl (btA_one _ _ _) ?_; intro w4 hv4 hb4))
     have T4:=Hi (T.out.kept hb4)
     have HV4:=Hi hv4
     have HXL:=Hi (AgAt.lt hv4)
     generalize wr.heap.size=X at *
     clear hb4 hv4 yc HRD HQL HXX
     go_loopw [3,7] (fun v i wr=>∃ (j:Nat) (p:Option Addr) (c:Nat) (lo:List Ee),j≤x.ops.length∧i=.int .i64 (j:Int)∧v=.slice p lo.length c∧ReE m.lg (PP ++ (entB x).take j) w p c lo wr∧BtAt wr X x pb cb) (fun _ i _=>x.ops.length - (intOf i).toNat)
     case atStart=>exact ⟨0,p,c,lo,Nat.zero_le _,rfl,rfl,by simpa using T4.out,HV4.out⟩
     case round =>
      clear T T4 HV4
      obtain ⟨j,p,c,lo,hj,rfl,rfl,ht,hx⟩:=hrel
      have T:=Hi ht
      have HX:=Hi hx
      have HBW:=Hi ht.bel
      clear ht hx
      obtain ⟨x0,x1,x2,x3⟩:=BtAt.cells HX.out
      have hxl:=HOK.out.szs.len
      by_cases hjl:j<x.ops.length
      ·have hd1:decide ((j:Int)<(x.ops.length:Int))=true:=decide_eq_true (by omega)
       have HJJ:=Hi (show (j:Int)<(x.ops.length:Int) from by omega)
       obtain ⟨bo,oo,rfl,-⟩:=(HOS.out _ HBW.out).rd.addr (by rw [enCells_length,(HOS.out _ HBW.out).len]; omega)
       have HJL:=Hi (show j<l0.length from by rw [(HOS.out _ HBW.out).len]; exact hjl)
       have HXJ:=Hi ((HOS.out _ HBW.out).x j)
       have HST:=Hi (fun W (hW:Below wr.heap.size wr W)=>by
        have:=r8stamp_any x (some ⟨bo,oo,none⟩) cb (j:Int) W HOK.out.szs ⟨l0,HOS.out W (HBW.out.trans (hW.mono HBW.out.size))⟩ (by omega)
        rw [stampT_yes ⟨by omega,by omega,HOK.out.right⟩] at this
        exact this)
       have HLN:=Hi (show lo.length≤1500 from by
        obtain ⟨t,ht⟩:=HAT.out j hjl
        have h1:=T.out.en.perm.length_eq
        have h2:=congrArg List.length ht
        have h3:=HNE.out
        simp only [List.length_map,List.length_append] at h1 h2
        omega)
       have HWI:=Hi (fun W (hW:Below wr.heap.size wr W)=>rgwith_any p c lo ⟨(x.t+(j:Int),x.r),opOf x.ops j,(enOf l0 j).q,(enOf l0 j).c⟩ W (T.out.rd.below hW) T.out.nil T.out.cap (by have:=HLN.out; omega))
       have HPJ:=Hi ((HOS.out w (Below.refl _ _)).paOf hjl)
       have HST6:=Hi (fun W (hW:Below wr.heap.size wr W) (n:Nat) (q:Option Addr) (d:Nat) (W':World) (hca:CutAt (x.t+(j:Int),x.r) lo n) (hno:0<n→¬ Qm.ltS (x.t+(j:Int),x.r) (eeOf lo (n - 1)).s) (hown:W'.ownsRow W.heap.size 99 14 (.slice q (lo.length+1) d) (lo.length+1) (eeCells (lo.take n ++ [⟨(x.t+(j:Int),x.r),opOf x.ops j,(enOf l0 j).q,(enOf l0 j).c⟩] ++ lo.drop n))) (hb:Below W.heap.size W W') =>
        show (lo.take n ++ [(⟨(x.t+(j:Int),x.r),opOf x.ops j,(enOf l0 j).q,(enOf l0 j).c⟩:Ee)] ++ lo.drop n).length=lo.length+1∧ReE m.lg (PP ++ (entB x).take (j+1)) w q d (lo.take n ++ [⟨(x.t+(j:Int),x.r),opOf x.ops j,(enOf l0 j).q,(enOf l0 j).c⟩] ++ lo.drop n) W' from by
         have hll:(lo.take n ++ [(⟨(x.t+(j:Int),x.r),opOf x.ops j,(enOf l0 j).q,(enOf l0 j).c⟩:Ee)] ++ lo.drop n).length=lo.length+1:=by
          have:=hca.le
          simp only [List.length_append,List.length_take,List.length_drop,List.length_cons,List.length_nil]
          omega
         refine ⟨hll,?_⟩
         obtain ⟨t,ht⟩:=HAT.out j hjl
         obtain ⟨p2,c2,e2,h1,h2,-,h3,-⟩:=own_rd hown
         obtain ⟨rfl,rfl⟩:q=p2∧d=c2:=by cases e2; exact ⟨rfl,rfl⟩
         have hen:=T.out.en.step (e:=⟨(x.t+(j:Int),x.r),opOf x.ops j,(enOf l0 j).q,(enOf l0 j).c⟩) ht hca hno
         rw [List.append_assoc PP] at hen
         rw [entB_take x j hjl]
         refine ⟨hen,h1,h3,by rw [hll]; exact h2,fun z hz=>?_,HBW.out.trans ((hW.trans (hb.mono hW.size)).mono HBW.out.size)⟩
         rcases List.mem_append.1 hz with hz | hz
         ·rcases List.mem_append.1 hz with hz | hz
          ·exact T.out.pa z (List.mem_of_mem_take hz)
          ·obtain rfl:z=_:=by simpa using hz
           exact HPJ.out
         ·exact T.out.pa z (List.mem_of_mem_drop hz))
       go_upto_region 12 with fail
       refine wp_region_held_drew (S:=fun W=>BtAt W X x (some ⟨bo,oo,none⟩) cb∧Below wr.heap.size wr W) (by kernel_rfl) ⟨AgAt.kept HX.out (Below.drew (Below.refl _ _)),(Below.refl _ _).drew⟩ (fun hS=>?_)
       clear x0 x1 x2 x3
       generalize wr.drew=wd at *
       refine tX 0 rfl hS ?_
       go_simp
       refine tK 1 (v:=.agg (btA x (some ⟨bo,oo,none⟩) cb)) rfl (fun W hSW=>exec_load_ag btR rfl rfl rfl hSW.1) hS ?_
       refine tX 2 rfl hS ?_
       refine tX 4 rfl hS ?_
       refine tK 5 (v:=?_) rfl ?_ hS ?_
       rotate_left
       ·intro W hSW
        obtain ⟨x0,x1,x2,x3⟩:=BtAt.cells hSW.1
        go_simp
        all_goals with_reducible rfl
       go_simp
       refine tX 6 rfl hS ?_
       refine tK 7 (v:=?_) rfl ?_ hS ?_
       rotate_left
       ·intro W hSW
        have hjj:=HJJ.out
        go_simp
        all_goals with_reducible rfl
       go_simp
       refine tK 8 (v:=.agg (opA (opOf x.ops j) (enOf l0 j).q (enOf l0 j).c)) rfl (fun W hSW=>by rw [← HXJ.out]; exact exec_load_en otR rfl rfl l0 (HOS.out W (HBW.out.trans (hSW.2.mono HBW.out.size))).rd HJL.out) hS ?_
       go_simp
       refine rD 3 rfl (fun K hK=>?_)
       go_simp
       go_wp2_with ((go_at_call 71; refine (HST.out _ hS.2).mono ?_; rintro es w5 ⟨rfl,hb5⟩))
       refine hK.out _ _ ⟨AgAt.kept hS.1 hb5,hS.2.trans (hb5.mono hS.2.size)⟩ (fun hS=>?_)
       clear hK K hb5
       refine tK 9 (v:=.agg (eeA ⟨(x.t+(j:Int),x.r),opOf x.ops j,(enOf l0 j).q,(enOf l0 j).c⟩)) rfl (fun W hSW=>exec_build_re rfl rfl rfl) hS ?_
       go_simp
       refine rD 10 rfl (fun K hK=>?_)
       go_simp
       go_wp2_with ((go_at_call 70; refine (HWI.out _ hS.2).mono ?_; rintro ew w6 ⟨n,p6,c6,rfl,hca6,hno6,ho6,hb6⟩))
       have HE6:=Hi (HST6.out _ hS.2 n p6 c6 w6 hca6 hno6 ho6 hb6)
       have HX6:=Hi (AgAt.kept hS.1 hb6)
       refine hK.out _ _ ⟨AgAt.kept hS.1 hb6,hS.2.trans (hb6.mono hS.2.size)⟩ (fun hS=>?_)
       clear hK K hb6 ho6 hca6 hno6
       refine tX 11 rfl hS ?_
       go_simp
       refine wpAnyH_done (by kernel_rfl) ?_ _
       go_simp
       clear hS
       go_wp2
       go_roundw
       case rel=>exact ⟨j+1,p6,c6,lo.take n ++ [⟨(x.t+(j:Int),x.r),opOf x.ops j,(enOf l0 j).q,(enOf l0 j).c⟩] ++ lo.drop n,by omega,by go_num,by rw [HE6.out.1],HE6.out.2,HX6.out⟩
       case measure=>simp [intOf]; omega
      ·obtain rfl:j=x.ops.length:=by omega
       have hd1:decide ((x.ops.length:Int)<(x.ops.length:Int))=false:=decide_eq_false (by omega)
       have HE:=Hi (show ReE m.lg (preEn m.lg k ++ entR ((m.lg.row k).take (q+1))) w p c lo wr from by
        have:=T.out
        rw [List.take_of_length_le (by rw [entB_length]; exact Nat.le_refl _)] at this
        rw [HSC.out]
        exact this)
       go_wp2
       go_roundw
       case rel=>exact ⟨q+1,p,c,lo,by omega,by go_num,rfl,HE.out⟩
       case measure=>simp [intOf]; omega
    ·obtain rfl:q=(m.el k).length:=by omega
     have hd0:decide (((m.el k).length:Int)<((m.el k).length:Int))=false:=decide_eq_false (by omega)
     have HE:=Hi (show ReE m.lg (preEn m.lg (k+1)) w p c lo wr from by
      have:=T.out
      rw [List.take_of_length_le (by rw [HLG.out,List.length_map]; exact Nat.le_refl _)] at this
      rw [preEn_succ]
      exact this)
     go_wp2
     go_roundw
     case rel=>exact ⟨k+1,p,c,lo,by omega,by go_num,rfl,HE.out⟩
     case measure=>simp [intOf]; omega
  ·obtain rfl:k=16:=by omega
   have HE:=Hi (show REnts m.lg w (.returned (.slice p lo.length c)) wr from ⟨p,c,lo,rfl,T.out.en,T.out.rd,fun x hx=>(T.out.pa x hx).kept T.out.bel,T.out.bel⟩)
   go_wp2
   go_ret
   exact HE.out
end Go.Proofs.YtfgnmnkihbgjnaaGreat

/-
  THE DOCUMENT'S LOG: with.
  No conditions but sizes.
-/
import Derived.Test.YtfgnmnkihbgjnaaGreatSh
import Derived.Test.YtfgnmnkihbgjnaaGreatHH
set_option maxRecDepth 100000
set_option maxHeartbeats 16000000
namespace Go.Proofs.YtfgnmnkihbgjnaaGreat
open Go.RowKit
theorem CutAt.down {s:Qm.St} {lo:List Ee} {j:Nat} (h:CutAt s lo (j+1)) (hl:Qm.ltS s (eeOf lo j).s):CutAt s lo j :=
 ⟨by have:=h.le; omega,fun i h1 h2=>by
  by_cases e:i=j
  ·subst e; exact hl
  ·exact h.gt i (by omega) h2⟩
def RWith (lo:List Ee) (e:Ee) (w:World) (r:Ending) (w':World):Prop :=
 ∃ n p c,r=.returned (.slice p (lo.length+1) c)∧CutAt e.s lo n∧(0<n→¬ Qm.ltS e.s (eeOf lo (n - 1)).s)∧w'.ownsRow w.heap.size 99 14 (.slice p (lo.length+1) c) (lo.length+1) (eeCells (lo.take n ++ [e] ++ lo.drop n))∧Below w.heap.size w w'
theorem rgwith_any (p:Option Addr) (c:Nat) (lo:List Ee) (e:Ee) (w:World) (h:Rd w p (eeCells lo)) (hpn:p=none→c=0) (hcap:lo.length≤c) (hsz:lo.length≤5000) :
  Calls Tryz.prog 70 #[.slice p lo.length c,.agg (eeA e)] w (RWith lo e w):=by
 obtain ⟨i0,hi,hz0,hz1,hz2⟩:=info_parts einfo_re
 have hb:=(Below.refl w.heap.size w).alloc (Nat.le_refl _) (.cells (eeA e) 99)
 have HR:=Hi (fun W (hW:Below w.heap.size w W)=>h.below hW)
 have HX:=Hi (AgAt.new w (eeA e) 99)
 have HB:=Hi hb
 have HPN:=Hi hpn
 have HCAP:=Hi hcap
 have HSZ:=Hi hsz
 clear h hb hpn hcap
 go_enter Tryz.func70,Tryz.ntmps70
 go_wp2
 go_loopw [5] (fun i wr=>∃ n:Nat,n≤lo.length∧i=.int .i64 (n:Int)∧CutAt e.s lo n∧AgAt wr w.heap.size (eeA e)∧Below w.heap.size w wr) (fun i _=>(intOf i).toNat)
 case atStart=>exact ⟨lo.length,Nat.le_refl _,rfl,⟨Nat.le_refl _,fun i h1 h2=>by omega⟩,HX.out,HB.out⟩
 case round =>
  clear HX HB
  obtain ⟨n,hn,rfl,hca,hx,hbw⟩:=hrel
  have HCA:=Hi hca
  have HXW:=Hi hx
  have HBW:=Hi hbw
  clear hca hx hbw
  by_cases hn0:n=0
  ·have hd0:decide ((0:Int)<(n:Int))=false:=decide_eq_false (by omega)
   have HZZ:=Hi (show n=0 from hn0)
   have HNO:=Hi (show 0<n→¬ Qm.ltS e.s (eeOf lo (n - 1)).s from fun h=>by omega)
   clear hn0
   go_upto_region 2 with fail
   refine wp_region_held_drew (S:=fun W=>AgAt W w.heap.size (eeA e)∧Below wr.heap.size wr W) (by kernel_rfl) ⟨AgAt.kept HXW.out (Below.drew (Below.refl _ _)),(Below.refl _ _).drew⟩ (fun hS=>?_)
   generalize wr.drew=wq at *
   refine tX 0 rfl hS ?_
   go_simp
   refine tK 1 (v:=.bool false) rfl (fun W hSW=>by have hq:=HZZ.out; subst hq; go_simp) hS ?_
   refine tX 2 rfl hS ?_
   go_simp
   refine tU 3 rfl hS ?_
   go_simp
   refine tU 4 rfl hS ?_
   go_simp
   refine tU 5 rfl hS ?_
   go_simp
   refine tU 6 rfl hS ?_
   go_simp
   refine tU 7 rfl hS ?_
   go_simp
   refine tU 8 rfl hS ?_
   go_simp
   refine tU 9 rfl hS ?_
   go_simp
   refine tU 10 rfl hS ?_
   go_simp
   refine tU 11 rfl hS ?_
   go_simp
   refine tU 12 rfl hS ?_
   refine tX 13 rfl hS ?_
   go_simp
   refine wpAnyH_done (by kernel_rfl) ?_ _
   go_simp
   have HB1:=Hi hS.2
   have HX1:=Hi hS.1
   clear hS
   have hres:Code.wp Tryz.prog=Code.wp Tryz.prog:=rfl
   clear hres
   go_upto_region 4 with fail
   have HX0:=Hi (show AgAt wq.drew w.heap.size (eeA e) from AgAt.kept HX1.out (Below.drew (Below.refl _ _)))
   have HBD:=Hi (show Below w.heap.size w wq.drew from (HBW.out.trans (HB1.out.mono HBW.out.size)).drew)
   refine wp_region_held_drew (S:=fun W=>AgAt W w.heap.size (eeA e)) (by kernel_rfl) HX0.out (fun hS=>?_)
   generalize wq.drew=wd at *
   have HRD:=Hi (fun W (hW:Below wd.heap.size wd W)=>HR.out W (HBD.out.trans (hW.mono HBD.out.size)))
   have HNL:=Hi (show n≤lo.length from HCA.out.le)
   have HLE:=Hi (show n+1+(lo.length - n)=lo.length+1 from by have:=HNL.out; omega)
   have HCE:=Hi (show eeCells (lo.take n) ++ eeL e ++ eeCells (lo.drop n)=eeCells (lo.take n ++ [e] ++ lo.drop n) from by rw [eeCells_append,eeCells_append,eeCells_sing])
   have HOUT:=Hi (fun (W:World) (q:Option Addr) (d:Nat) (hW:Below wd.heap.size wd W) (ho:W.ownsRow wd.heap.size 99 14 (.slice q (lo.length+1) d) (lo.length+1) (eeCells (lo.take n ++ [e] ++ lo.drop n))) =>
    show RWith lo e w (.returned (.slice q (lo.length+1) d)) W from ⟨n,q,d,rfl,HCA.out,HNO.out,own_base ho (fun g hg=>Nat.le_trans HBD.out.size (World.ownsRow.lt ho g hg).1),HBD.out.trans (hW.mono HBD.out.size)⟩)
   refine tX 1 rfl hS ?_
   refine tX 2 rfl hS ?_
   go_simp
   refine tK 3 (v:=.slice p n c) rfl (fun W _=>exec_take_re rfl rfl rfl (Nat.le_trans HNL.out HCAP.out)) hS ?_
   go_simp
   refine tK 5 (v:=.agg (eeA e)) rfl (fun W hSW=>exec_load_ag reT rfl rfl rfl hSW) hS ?_
   refine tX 8 rfl hS ?_
   refine tX 9 rfl hS ?_
   go_simp
   refine tK 10 (v:=.slice (dre p c n) (lo.length - n) (c - n)) rfl (fun W _=>exec_drop_re rfl rfl rfl HNL.out) hS ?_
   go_simp
   refine wpAnyH_ready (rs:=[0,6]) (by kernel_rfl) (by simp) ?_
   refine AllReadyH.cons rfl (fun K hK=>?_) (AllReadyH.cons rfl (fun K hK=>?_) AllReadyH.nil)
   ·have hb:=(Below.refl wd.heap.size wd).alloc (Nat.le_refl _) (.cells #[] 99)
    have HO0:=Hi (World.ownsRow_lit (base:=wd.heap.size) (e:=99) (size:=14) wd #[] 0 (Below.refl wd.heap.size wd).size (by simp [maxLen]) (by simp))
    have HC0:=Hi (Below.refl wd.heap.size wd).size
    have HB0:=Hi ((Below.refl wd.heap.size wd).trans (hb.mono (Below.refl wd.heap.size wd).size))
    have HL0:=Hi (show wd.heap.size<(wd.alloc (.cells #[] 99)).heap.size from by simp)
    go_simp
    refine hK.out _ _ (AgAt.kept hS hb) (fun hS=>?_)
    clear hK K hb
    generalize wd.alloc (.cells #[] 99)=w0 at *
    refine wpAnyH_ready (rs:=[4,6]) (by kernel_rfl) (by simp) ?_
    refine AllReadyH.cons rfl (fun K hK=>?_) (AllReadyH.cons rfl (fun K hK=>?_) AllReadyH.nil)
    ·refine step_append_kN (by kernel_rfl) _ _ 96 rfl wd.heap.size 99 i0 _ 14 144 Tryz.underlying96 hi hz0 hz1 (by decide) hz2 (by decide) rfl _ 0 [] rfl HO0.out _ n c (eeCells (lo.take n)) rfl (by rw [eeCells_length,List.length_take,Nat.min_eq_left HNL.out]) (rd_take_re (HRD.out _ HB0.out) n) HPN.out eeCells_one (by have:=HSZ.out; have:=HNL.out; omega) HB0.out.size ?_
     intro p4 c4 w4 ho4 hg4 _
     rw [Nat.zero_add,List.nil_append] at ho4
     have hb4:=HB0.out.grown hg4 HB0.out.size (fun k hk=>by cases hk; exact HC0.out)
     have HO4:=Hi ho4
     have HB4:=Hi hb4
     refine hK.out _ _ (AgAt.kept HX0.out hb4) (fun hS=>?_)
     clear hK K hb4 ho4 hg4
     rw [Nat.zero_add]
     refine rD 6 rfl (fun K hK=>?_)
     have hb:=(Below.refl w4.heap.size w4).alloc (Nat.le_refl _) (.cells (eeA e) 99)
     have HRW:=Hi (rd_ee_one w4 e 99)
     have HB6:=Hi (HB4.out.trans (hb.mono HB4.out.size))
     have HC6:=Hi (show w4.heap.size<(w4.alloc (.cells (eeA e) 99)).heap.size from by simp)
     replace HO4:=Hi (own_belowK HO4.out hb)
     refine step_of (by kernel_rfl) ?_
     refine wp_build_re _ rfl e rfl ?_
     refine hK.out _ _ (AgAt.kept hS hb) (fun hS=>?_)
     clear hK K hb
     generalize w4.alloc (.cells (eeA e) 99)=w6 at *
     refine rD 7 rfl (fun K hK=>?_)
     refine step_append_kN (by kernel_rfl) _ _ 96 rfl wd.heap.size 99 i0 _ 14 144 Tryz.underlying96 hi hz0 hz1 (by decide) hz2 (by decide) rfl (.slice p4 n c4) n (eeCells (lo.take n)) rfl HO4.out _ 1 1 (eeL e) rfl rfl HRW.out (fun h=>by cases h) (eeL_one _) (by have:=HSZ.out; have:=HNL.out; omega) HB6.out.size ?_
     intro p7 c7 w7 ho7 hg7 _
     have hb7:=HB6.out.grown hg7 HB6.out.size (fun k hk=>(World.ownsRow.lt HO4.out k hk).1)
     have HO7:=Hi ho7
     have HB7:=Hi hb7
     refine hK.out _ _ (AgAt.kept HX0.out hb7) (fun hS=>?_)
     clear hK K hb7 ho7 hg7
     refine rD 11 rfl (fun K hK=>?_)
     refine step_append_kN (by kernel_rfl) _ _ 96 rfl wd.heap.size 99 i0 _ 14 144 Tryz.underlying96 hi hz0 hz1 (by decide) hz2 (by decide) rfl (.slice p7 (n+1) c7) (n+1) (eeCells (lo.take n) ++ eeL e) rfl HO7.out _ (lo.length - n) (c - n) (eeCells (lo.drop n)) rfl (by rw [eeCells_length,List.length_drop]) (rd_drop_re (HRD.out _ HB7.out) n HCAP.out) (fun h=>dre_none HPN.out h) eeCells_one (by have:=HSZ.out; have:=HNL.out; omega) HB7.out.size ?_
     intro p11 c11 w11 ho11 hg11 _
     have hb11:=HB7.out.grown hg11 HB7.out.size (fun k hk=>(World.ownsRow.lt HO7.out k hk).1)
     rw [HLE.out,HCE.out] at ho11
     have HO11:=Hi ho11
     have HB11:=Hi hb11
     refine hK.out _ _ (AgAt.kept HX0.out hb11) (fun hS=>?_)
     clear hK K hb11 ho11 hg11
     rw [HLE.out]
     refine tX 12 rfl hS ?_
     go_simp
     refine wpAnyH_done (by kernel_rfl) ?_ _
     go_simp
     have HE:=Hi (HOUT.out w11 p11 c11 HB11.out HO11.out)
     clear hS
     go_wp2
     go_ret
     exact HE.out
    ·have hb:=(Below.refl w0.heap.size w0).alloc (Nat.le_refl _) (.cells (eeA e) 99)
     have HRW:=Hi (rd_ee_one w0 e 99)
     have HB6:=Hi (HB0.out.trans (hb.mono HB0.out.size))
     have HC6:=Hi (show w0.heap.size<(w0.alloc (.cells (eeA e) 99)).heap.size from by simp)
     replace HO0:=Hi (own_belowK HO0.out hb)
     have HNE:=Hi (show wd.heap.size≠w0.heap.size from by have:=HL0.out; omega)
     refine step_of (by kernel_rfl) ?_
     refine wp_build_re _ rfl e rfl ?_
     refine hK.out _ _ (AgAt.kept hS hb) (fun hS=>?_)
     clear hK K hb
     generalize w0.alloc (.cells (eeA e) 99)=w6 at *
     refine rD 4 rfl (fun K hK=>?_)
     refine step_append_kN (by kernel_rfl) _ _ 96 rfl wd.heap.size 99 i0 _ 14 144 Tryz.underlying96 hi hz0 hz1 (by decide) hz2 (by decide) rfl _ 0 [] rfl HO0.out _ n c (eeCells (lo.take n)) rfl (by rw [eeCells_length,List.length_take,Nat.min_eq_left HNL.out]) (rd_take_re (HRD.out _ HB6.out) n) HPN.out eeCells_one (by have:=HSZ.out; have:=HNL.out; omega) HB6.out.size ?_
     intro p4 c4 w4 ho4 hg4 _
     rw [Nat.zero_add,List.nil_append] at ho4
     have hb4:=HB6.out.grown hg4 HB6.out.size (fun k hk=>by cases hk; exact HC0.out)
     have HO4:=Hi ho4
     have HB4:=Hi hb4
     replace HRW:=Hi ((Turns.of_grown hg4).rd HRW.out (fun a ha hh=>by cases ha; exact HNE.out (Option.some.inj hh)))
     refine hK.out _ _ (AgAt.kept HX0.out hb4) (fun hS=>?_)
     clear hK K hb4 ho4 hg4
     rw [Nat.zero_add]
     refine rD 7 rfl (fun K hK=>?_)
     refine step_append_kN (by kernel_rfl) _ _ 96 rfl wd.heap.size 99 i0 _ 14 144 Tryz.underlying96 hi hz0 hz1 (by decide) hz2 (by decide) rfl (.slice p4 n c4) n (eeCells (lo.take n)) rfl HO4.out _ 1 1 (eeL e) rfl rfl HRW.out (fun h=>by cases h) (eeL_one _) (by have:=HSZ.out; have:=HNL.out; omega) HB4.out.size ?_
     intro p7 c7 w7 ho7 hg7 _
     have hb7:=HB4.out.grown hg7 HB4.out.size (fun k hk=>(World.ownsRow.lt HO4.out k hk).1)
     have HO7:=Hi ho7
     have HB7:=Hi hb7
     refine hK.out _ _ (AgAt.kept HX0.out hb7) (fun hS=>?_)
     clear hK K hb7 ho7 hg7
     refine rD 11 rfl (fun K hK=>?_)
     refine step_append_kN (by kernel_rfl) _ _ 96 rfl wd.heap.size 99 i0 _ 14 144 Tryz.underlying96 hi hz0 hz1 (by decide) hz2 (by decide) rfl (.slice p7 (n+1) c7) (n+1) (eeCells (lo.take n) ++ eeL e) rfl HO7.out _ (lo.length - n) (c - n) (eeCells (lo.drop n)) rfl (by rw [eeCells_length,List.length_drop]) (rd_drop_re (HRD.out _ HB7.out) n HCAP.out) (fun h=>dre_none HPN.out h) eeCells_one (by have:=HSZ.out; have:=HNL.out; omega) HB7.out.size ?_
     intro p11 c11 w11 ho11 hg11 _
     have hb11:=HB7.out.grown hg11 HB7.out.size (fun k hk=>(World.ownsRow.lt HO7.out k hk).1)
     rw [HLE.out,HCE.out] at ho11
     have HO11:=Hi ho11
     have HB11:=Hi hb11
     refine hK.out _ _ (AgAt.kept HX0.out hb11) (fun hS=>?_)
     clear hK K hb11 ho11 hg11
     rw [HLE.out]
     refine tX 12 rfl hS ?_
     go_simp
     refine wpAnyH_done (by kernel_rfl) ?_ _
     go_simp
     have HE:=Hi (HOUT.out w11 p11 c11 HB11.out HO11.out)
     clear hS
     go_wp2
     go_ret
     exact HE.out
   ·have hb:=(Below.refl wd.heap.size wd).alloc (Nat.le_refl _) (.cells (eeA e) 99)
    have HRW:=Hi (rd_ee_one wd e 99)
    have HB6:=Hi ((Below.refl wd.heap.size wd).trans (hb.mono (Below.refl wd.heap.size wd).size))
    have HC6:=Hi (show wd.heap.size<(wd.alloc (.cells (eeA e) 99)).heap.size from by simp)
    refine step_of (by kernel_rfl) ?_
    refine wp_build_re _ rfl e rfl ?_
    refine hK.out _ _ (AgAt.kept hS hb) (fun hS=>?_)
    clear hK K hb
    generalize wd.alloc (.cells (eeA e) 99)=w6 at *
    refine rD 0 rfl (fun K hK=>?_)
    have hb:=(Below.refl w6.heap.size w6).alloc (Nat.le_refl _) (.cells #[] 99)
    have HO0:=Hi (World.ownsRow_lit (base:=wd.heap.size) (e:=99) (size:=14) w6 #[] 0 HB6.out.size (by simp [maxLen]) (by simp))
    have HC0:=Hi HB6.out.size
    have HB0:=Hi (HB6.out.trans (hb.mono HB6.out.size))
    have HL0:=Hi (show w6.heap.size<(w6.alloc (.cells #[] 99)).heap.size from by simp)
    replace HRW:=Hi (HRW.out.below hb)
    have HNE:=Hi (show w6.heap.size≠wd.heap.size from by have:=HC6.out; omega)
    go_simp
    refine hK.out _ _ (AgAt.kept hS hb) (fun hS=>?_)
    clear hK K hb
    generalize w6.alloc (.cells #[] 99)=w0 at *
    refine rD 4 rfl (fun K hK=>?_)
    refine step_append_kN (by kernel_rfl) _ _ 96 rfl wd.heap.size 99 i0 _ 14 144 Tryz.underlying96 hi hz0 hz1 (by decide) hz2 (by decide) rfl _ 0 [] rfl HO0.out _ n c (eeCells (lo.take n)) rfl (by rw [eeCells_length,List.length_take,Nat.min_eq_left HNL.out]) (rd_take_re (HRD.out _ HB0.out) n) HPN.out eeCells_one (by have:=HSZ.out; have:=HNL.out; omega) HB0.out.size ?_
    intro p4 c4 w4 ho4 hg4 _
    rw [Nat.zero_add,List.nil_append] at ho4
    have hb4:=HB0.out.grown hg4 HB0.out.size (fun k hk=>by cases hk; exact HC0.out)
    have HO4:=Hi ho4
    have HB4:=Hi hb4
    replace HRW:=Hi ((Turns.of_grown hg4).rd HRW.out (fun a ha hh=>by cases ha; exact HNE.out (Option.some.inj hh)))
    refine hK.out _ _ (AgAt.kept HX0.out hb4) (fun hS=>?_)
    clear hK K hb4 ho4 hg4
    rw [Nat.zero_add]
    refine rD 7 rfl (fun K hK=>?_)
    refine step_append_kN (by kernel_rfl) _ _ 96 rfl wd.heap.size 99 i0 _ 14 144 Tryz.underlying96 hi hz0 hz1 (by decide) hz2 (by decide) rfl (.slice p4 n c4) n (eeCells (lo.take n)) rfl HO4.out _ 1 1 (eeL e) rfl rfl HRW.out (fun h=>by cases h) (eeL_one _) (by have:=HSZ.out; have:=HNL.out; omega) HB4.out.size ?_
    intro p7 c7 w7 ho7 hg7 _
    have hb7:=HB4.out.grown hg7 HB4.out.size (fun k hk=>(World.ownsRow.lt HO4.out k hk).1)
    have HO7:=Hi ho7
    have HB7:=Hi hb7
    refine hK.out _ _ (AgAt.kept HX0.out hb7) (fun hS=>?_)
    clear hK K hb7 ho7 hg7
    refine rD 11 rfl (fun K hK=>?_)
    refine step_append_kN (by kernel_rfl) _ _ 96 rfl wd.heap.size 99 i0 _ 14 144 Tryz.underlying96 hi hz0 hz1 (by decide) hz2 (by decide) rfl (.slice p7 (n+1) c7) (n+1) (eeCells (lo.take n) ++ eeL e) rfl HO7.out _ (lo.length - n) (c - n) (eeCells (lo.drop n)) rfl (by rw [eeCells_length,List.length_drop]) (rd_drop_re (HRD.out _ HB7.out) n HCAP.out) (fun h=>dre_none HPN.out h) eeCells_one (by have:=HSZ.out; have:=HNL.out; omega) HB7.out.size ?_
    intro p11 c11 w11 ho11 hg11 _
    have hb11:=HB7.out.grown hg11 HB7.out.size (fun k hk=>(World.ownsRow.lt HO7.out k hk).1)
    rw [HLE.out,HCE.out] at ho11
    have HO11:=Hi ho11
    have HB11:=Hi hb11
    refine hK.out _ _ (AgAt.kept HX0.out hb11) (fun hS=>?_)
    clear hK K hb11 ho11 hg11
    rw [HLE.out]
    refine tX 12 rfl hS ?_
    go_simp
    refine wpAnyH_done (by kernel_rfl) ?_ _
    go_simp
    have HE:=Hi (HOUT.out w11 p11 c11 HB11.out HO11.out)
    clear hS
    go_wp2
    go_ret
    exact HE.out
  ·obtain ⟨j,hn1⟩:∃ j,n=j+1:=⟨n - 1,by omega⟩
   have HJL:=Hi (show j<lo.length from by omega)
   obtain ⟨b,o,rfl,-⟩:=(HR.out _ HBW.out).addr (by rw [eeCells_length]; omega)
   have E1:=Hi (show (n:Int) - 1=(j:Int) from by omega)
   have W0:=Hi (show IntKind.i64.wrap (j:Int)=(j:Int) from wraps_i64 _ (by omega) (by omega))
   have HJJ:=Hi (show (j:Int)<(lo.length:Int) from by omega)
   have hd0:decide ((0:Int)<(n:Int))=true:=decide_eq_true (by omega)
   have hz:(0<n)=True:=eq_true (by omega)
   have HN1:=Hi hn1
   clear hn1 hn0
   by_cases hc:Qm.ltS e.s (eeOf lo j).s
   ·have HCV:=Hi (show qcmpS (eeOf lo j).s.1 (eeOf lo j).s.2 e.s.1 e.s.2=1 from cmpV_gt hc)
    have HCJ:=Hi (show CutAt e.s lo j from CutAt.down (by have:=HCA.out; rw [HN1.out] at this; exact this) hc)
    have hd1:decide ((0:Int)<1)=true:=rfl
    go_upto_region 2 with fail
    refine wp_region_held_drew (S:=fun W=>AgAt W w.heap.size (eeA e)∧Below wr.heap.size wr W) (by kernel_rfl) ⟨AgAt.kept HXW.out (Below.drew (Below.refl _ _)),(Below.refl _ _).drew⟩ (fun hS=>?_)
    generalize wr.drew=wq at *
    refine tX 0 rfl hS ?_
    refine tX 1 rfl hS ?_
    refine tX 2 rfl hS ?_
    refine tX 3 rfl hS ?_
    go_simp
    refine tX 4 rfl hS ?_
    refine tK 5 (v:=?_) rfl ?_ hS ?_
    rotate_left
    ·intro W hSW
     have he1:=E1.out
     have hw0:=W0.out
     go_simp
     all_goals with_reducible rfl
    refine tK 6 (v:=?_) rfl ?_ hS ?_
    rotate_left
    ·intro W hSW
     have hjj:=HJJ.out
     go_simp
     all_goals with_reducible rfl
    refine tX 7 rfl hS ?_
    go_simp
    refine tK 8 (v:=.agg #[.int .i64 (eeOf lo j).s.1,.int .i64 (eeOf lo j).s.2]) rfl (fun W hSW=>exec_load_st9 rfl rfl lo (HR.out W (HBW.out.trans (hSW.2.mono HBW.out.size))) HJL.out) hS ?_
    refine tX 9 rfl hS ?_
    go_simp
    refine tK 10 (v:=.agg #[.int .i64 e.s.1,.int .i64 e.s.2]) rfl (fun W hSW=>exec_load_sbox rfl rfl hSW.1) hS ?_
    go_simp
    refine rD 11 rfl (fun K hK=>?_)
    go_simp
    go_wp2_with ((go_at_call 93; refine (qrefCompare_any _ _ _ _ _).mono ?_; rintro ec w2 ⟨rfl,hb2⟩))
    rw [HCV.out]
    refine hK.out _ _ ⟨AgAt.kept hS.1 hb2,hS.2.trans (hb2.mono hS.2.size)⟩ (fun hS=>?_)
    clear hK K hb2
    refine tX 12 rfl hS ?_
    refine tX 13 rfl hS ?_
    go_simp
    refine wpAnyH_done (by kernel_rfl) ?_ _
    go_simp
    have HBX:=Hi (HBW.out.trans (hS.2.mono HBW.out.size))
    have HX1:=Hi hS.1
    clear hS
    have he1:=E1.out
    have hw0:=W0.out
    go_wp2
    go_roundw
    case rel=>exact ⟨j,by have:=HJL.out; omega,by go_num,HCJ.out,HX1.out,HBX.out⟩
    case measure=>simp [intOf]; have:=HN1.out; omega
   ·obtain ⟨v,HCV,hv⟩:∃ v,Hid (qcmpS (eeOf lo j).s.1 (eeOf lo j).s.2 e.s.1 e.s.2=v)∧v≤0:=by
     rcases Qm.ltS_tri (eeOf lo j).s e.s with h1 | h1 | h1
     ·exact ⟨-1,Hi (cmpV_lt h1),by omega⟩
     ·refine ⟨0,Hi ?_,by omega⟩
      rw [h1]
      exact cmpV_eq _
     ·exact absurd h1 hc
    have hd1:decide (0<v)=false:=decide_eq_false (by omega)
    have HNO:=Hi (show 0<n→¬ Qm.ltS e.s (eeOf lo (n - 1)).s from fun _=>by rw [HN1.out]; exact hc)
    go_upto_region 2 with fail
    refine wp_region_held_drew (S:=fun W=>AgAt W w.heap.size (eeA e)∧Below wr.heap.size wr W) (by kernel_rfl) ⟨AgAt.kept HXW.out (Below.drew (Below.refl _ _)),(Below.refl _ _).drew⟩ (fun hS=>?_)
    generalize wr.drew=wq at *
    refine tX 0 rfl hS ?_
    refine tX 1 rfl hS ?_
    refine tX 2 rfl hS ?_
    refine tX 3 rfl hS ?_
    go_simp
    refine tX 4 rfl hS ?_
    refine tK 5 (v:=?_) rfl ?_ hS ?_
    rotate_left
    ·intro W hSW
     have he1:=E1.out
     have hw0:=W0.out
     go_simp
     all_goals with_reducible rfl
    refine tK 6 (v:=?_) rfl ?_ hS ?_
    rotate_left
    ·intro W hSW
     have hjj:=HJJ.out
     go_simp
     all_goals with_reducible rfl
    refine tX 7 rfl hS ?_
    go_simp
    refine tK 8 (v:=.agg #[.int .i64 (eeOf lo j).s.1,.int .i64 (eeOf lo j).s.2]) rfl (fun W hSW=>exec_load_st9 rfl rfl lo (HR.out W (HBW.out.trans (hSW.2.mono HBW.out.size))) HJL.out) hS ?_
    refine tX 9 rfl hS ?_
    go_simp
    refine tK 10 (v:=.agg #[.int .i64 e.s.1,.int .i64 e.s.2]) rfl (fun W hSW=>exec_load_sbox rfl rfl hSW.1) hS ?_
    go_simp
    refine rD 11 rfl (fun K hK=>?_)
    go_simp
    go_wp2_with ((go_at_call 93; refine (qrefCompare_any _ _ _ _ _).mono ?_; rintro ec w2 ⟨rfl,hb2⟩))
    rw [HCV.out]
    refine hK.out _ _ ⟨AgAt.kept hS.1 hb2,hS.2.trans (hb2.mono hS.2.size)⟩ (fun hS=>?_)
    clear hK K hb2
    refine tX 12 rfl hS ?_
    refine tX 13 rfl hS ?_
    go_simp
    refine wpAnyH_done (by kernel_rfl) ?_ _
    go_simp
    clear E1 W0 HJJ
    have HB1:=Hi hS.2
    have HX1:=Hi hS.1
    clear hS
    have hres:Code.wp Tryz.prog=Code.wp Tryz.prog:=rfl
    clear hres
    go_upto_region 4 with fail
    have HX0:=Hi (show AgAt w2.drew w.heap.size (eeA e) from AgAt.kept HX1.out (Below.drew (Below.refl _ _)))
    have HBD:=Hi (show Below w.heap.size w w2.drew from (HBW.out.trans (HB1.out.mono HBW.out.size)).drew)
    refine wp_region_held_drew (S:=fun W=>AgAt W w.heap.size (eeA e)) (by kernel_rfl) HX0.out (fun hS=>?_)
    generalize w2.drew=wd at *
    have HRD:=Hi (fun W (hW:Below wd.heap.size wd W)=>HR.out W (HBD.out.trans (hW.mono HBD.out.size)))
    have HNL:=Hi (show n≤lo.length from HCA.out.le)
    have HLE:=Hi (show n+1+(lo.length - n)=lo.length+1 from by have:=HNL.out; omega)
    have HCE:=Hi (show eeCells (lo.take n) ++ eeL e ++ eeCells (lo.drop n)=eeCells (lo.take n ++ [e] ++ lo.drop n) from by rw [eeCells_append,eeCells_append,eeCells_sing])
    have HOUT:=Hi (fun (W:World) (q:Option Addr) (d:Nat) (hW:Below wd.heap.size wd W) (ho:W.ownsRow wd.heap.size 99 14 (.slice q (lo.length+1) d) (lo.length+1) (eeCells (lo.take n ++ [e] ++ lo.drop n))) =>
     show RWith lo e w (.returned (.slice q (lo.length+1) d)) W from ⟨n,q,d,rfl,HCA.out,HNO.out,own_base ho (fun g hg=>Nat.le_trans HBD.out.size (World.ownsRow.lt ho g hg).1),HBD.out.trans (hW.mono HBD.out.size)⟩)
    refine tX 1 rfl hS ?_
    refine tX 2 rfl hS ?_
    go_simp
    refine tK 3 (v:=.slice (some ⟨b,o,none⟩) n c) rfl (fun W _=>exec_take_re rfl rfl rfl (Nat.le_trans HNL.out HCAP.out)) hS ?_
    go_simp
    refine tK 5 (v:=.agg (eeA e)) rfl (fun W hSW=>exec_load_ag reT rfl rfl rfl hSW) hS ?_
    refine tX 8 rfl hS ?_
    refine tX 9 rfl hS ?_
    go_simp
    refine tK 10 (v:=.slice (dre (some ⟨b,o,none⟩) c n) (lo.length - n) (c - n)) rfl (fun W _=>exec_drop_re rfl rfl rfl HNL.out) hS ?_
    go_simp
    refine wpAnyH_ready (rs:=[0,6]) (by kernel_rfl) (by simp) ?_
    refine AllReadyH.cons rfl (fun K hK=>?_) (AllReadyH.cons rfl (fun K hK=>?_) AllReadyH.nil)
    ·have hb:=(Below.refl wd.heap.size wd).alloc (Nat.le_refl _) (.cells #[] 99)
     have HO0:=Hi (World.ownsRow_lit (base:=wd.heap.size) (e:=99) (size:=14) wd #[] 0 (Below.refl wd.heap.size wd).size (by simp [maxLen]) (by simp))
     have HC0:=Hi (Below.refl wd.heap.size wd).size
     have HB0:=Hi ((Below.refl wd.heap.size wd).trans (hb.mono (Below.refl wd.heap.size wd).size))
     have HL0:=Hi (show wd.heap.size<(wd.alloc (.cells #[] 99)).heap.size from by simp)
     go_simp
     refine hK.out _ _ (AgAt.kept hS hb) (fun hS=>?_)
     clear hK K hb
     generalize wd.alloc (.cells #[] 99)=w0 at *
     refine wpAnyH_ready (rs:=[4,6]) (by kernel_rfl) (by simp) ?_
     refine AllReadyH.cons rfl (fun K hK=>?_) (AllReadyH.cons rfl (fun K hK=>?_) AllReadyH.nil)
     ·refine step_append_kN (by kernel_rfl) _ _ 96 rfl wd.heap.size 99 i0 _ 14 144 Tryz.underlying96 hi hz0 hz1 (by decide) hz2 (by decide) rfl _ 0 [] rfl HO0.out _ n c (eeCells (lo.take n)) rfl (by rw [eeCells_length,List.length_take,Nat.min_eq_left HNL.out]) (rd_take_re (HRD.out _ HB0.out) n) HPN.out eeCells_one (by have:=HSZ.out; have:=HNL.out; omega) HB0.out.size ?_
      intro p4 c4 w4 ho4 hg4 _
      rw [Nat.zero_add,List.nil_append] at ho4
      have hb4:=HB0.out.grown hg4 HB0.out.size (fun k hk=>by cases hk; exact HC0.out)
      have HO4:=Hi ho4
      have HB4:=Hi hb4
      refine hK.out _ _ (AgAt.kept HX0.out hb4) (fun hS=>?_)
      clear hK K hb4 ho4 hg4
      rw [Nat.zero_add]
      refine rD 6 rfl (fun K hK=>?_)
      have hb:=(Below.refl w4.heap.size w4).alloc (Nat.le_refl _) (.cells (eeA e) 99)
      have HRW:=Hi (rd_ee_one w4 e 99)
      have HB6:=Hi (HB4.out.trans (hb.mono HB4.out.size))
      have HC6:=Hi (show w4.heap.size<(w4.alloc (.cells (eeA e) 99)).heap.size from by simp)
      replace HO4:=Hi (own_belowK HO4.out hb)
      refine step_of (by kernel_rfl) ?_
      refine wp_build_re _ rfl e rfl ?_
      refine hK.out _ _ (AgAt.kept hS hb) (fun hS=>?_)
      clear hK K hb
      generalize w4.alloc (.cells (eeA e) 99)=w6 at *
      refine rD 7 rfl (fun K hK=>?_)
      refine step_append_kN (by kernel_rfl) _ _ 96 rfl wd.heap.size 99 i0 _ 14 144 Tryz.underlying96 hi hz0 hz1 (by decide) hz2 (by decide) rfl (.slice p4 n c4) n (eeCells (lo.take n)) rfl HO4.out _ 1 1 (eeL e) rfl rfl HRW.out (fun h=>by cases h) (eeL_one _) (by have:=HSZ.out; have:=HNL.out; omega) HB6.out.size ?_
      intro p7 c7 w7 ho7 hg7 _
      have hb7:=HB6.out.grown hg7 HB6.out.size (fun k hk=>(World.ownsRow.lt HO4.out k hk).1)
      have HO7:=Hi ho7
      have HB7:=Hi hb7
      refine hK.out _ _ (AgAt.kept HX0.out hb7) (fun hS=>?_)
      clear hK K hb7 ho7 hg7
      refine rD 11 rfl (fun K hK=>?_)
      refine step_append_kN (by kernel_rfl) _ _ 96 rfl wd.heap.size 99 i0 _ 14 144 Tryz.underlying96 hi hz0 hz1 (by decide) hz2 (by decide) rfl (.slice p7 (n+1) c7) (n+1) (eeCells (lo.take n) ++ eeL e) rfl HO7.out _ (lo.length - n) (c - n) (eeCells (lo.drop n)) rfl (by rw [eeCells_length,List.length_drop]) (rd_drop_re (HRD.out _ HB7.out) n HCAP.out) (fun h=>dre_none HPN.out h) eeCells_one (by have:=HSZ.out; have:=HNL.out; omega) HB7.out.size ?_
      intro p11 c11 w11 ho11 hg11 _
      have hb11:=HB7.out.grown hg11 HB7.out.size (fun k hk=>(World.ownsRow.lt HO7.out k hk).1)
      rw [HLE.out,HCE.out] at ho11
      have HO11:=Hi ho11
      have HB11:=Hi hb11
      refine hK.out _ _ (AgAt.kept HX0.out hb11) (fun hS=>?_)
      clear hK K hb11 ho11 hg11
      rw [HLE.out]
      refine tX 12 rfl hS ?_
      go_simp
      refine wpAnyH_done (by kernel_rfl) ?_ _
      go_simp
      have HE:=Hi (HOUT.out w11 p11 c11 HB11.out HO11.out)
      clear hS
      go_wp2
      go_ret
      exact HE.out
     ·have hb:=(Below.refl w0.heap.size w0).alloc (Nat.le_refl _) (.cells (eeA e) 99)
      have HRW:=Hi (rd_ee_one w0 e 99)
      have HB6:=Hi (HB0.out.trans (hb.mono HB0.out.size))
      have HC6:=Hi (show w0.heap.size<(w0.alloc (.cells (eeA e) 99)).heap.size from by simp)
      replace HO0:=Hi (own_belowK HO0.out hb)
      have HNE:=Hi (show wd.heap.size≠w0.heap.size from by have:=HL0.out; omega)
      refine step_of (by kernel_rfl) ?_
      refine wp_build_re _ rfl e rfl ?_
      refine hK.out _ _ (AgAt.kept hS hb) (fun hS=>?_)
      clear hK K hb
      generalize w0.alloc (.cells (eeA e) 99)=w6 at *
      refine rD 4 rfl (fun K hK=>?_)
      refine step_append_kN (by kernel_rfl) _ _ 96 rfl wd.heap.size 99 i0 _ 14 144 Tryz.underlying96 hi hz0 hz1 (by decide) hz2 (by decide) rfl _ 0 [] rfl HO0.out _ n c (eeCells (lo.take n)) rfl (by rw [eeCells_length,List.length_take,Nat.min_eq_left HNL.out]) (rd_take_re (HRD.out _ HB6.out) n) HPN.out eeCells_one (by have:=HSZ.out; have:=HNL.out; omega) HB6.out.size ?_
      intro p4 c4 w4 ho4 hg4 _
      rw [Nat.zero_add,List.nil_append] at ho4
      have hb4:=HB6.out.grown hg4 HB6.out.size (fun k hk=>by cases hk; exact HC0.out)
      have HO4:=Hi ho4
      have HB4:=Hi hb4
      replace HRW:=Hi ((Turns.of_grown hg4).rd HRW.out (fun a ha hh=>by cases ha; exact HNE.out (Option.some.inj hh)))
      refine hK.out _ _ (AgAt.kept HX0.out hb4) (fun hS=>?_)
      clear hK K hb4 ho4 hg4
      rw [Nat.zero_add]
      refine rD 7 rfl (fun K hK=>?_)
      refine step_append_kN (by kernel_rfl) _ _ 96 rfl wd.heap.size 99 i0 _ 14 144 Tryz.underlying96 hi hz0 hz1 (by decide) hz2 (by decide) rfl (.slice p4 n c4) n (eeCells (lo.take n)) rfl HO4.out _ 1 1 (eeL e) rfl rfl HRW.out (fun h=>by cases h) (eeL_one _) (by have:=HSZ.out; have:=HNL.out; omega) HB4.out.size ?_
      intro p7 c7 w7 ho7 hg7 _
      have hb7:=HB4.out.grown hg7 HB4.out.size (fun k hk=>(World.ownsRow.lt HO4.out k hk).1)
      have HO7:=Hi ho7
      have HB7:=Hi hb7
      refine hK.out _ _ (AgAt.kept HX0.out hb7) (fun hS=>?_)
      clear hK K hb7 ho7 hg7
      refine rD 11 rfl (fun K hK=>?_)
      refine step_append_kN (by kernel_rfl) _ _ 96 rfl wd.heap.size 99 i0 _ 14 144 Tryz.underlying96 hi hz0 hz1 (by decide) hz2 (by decide) rfl (.slice p7 (n+1) c7) (n+1) (eeCells (lo.take n) ++ eeL e) rfl HO7.out _ (lo.length - n) (c - n) (eeCells (lo.drop n)) rfl (by rw [eeCells_length,List.length_drop]) (rd_drop_re (HRD.out _ HB7.out) n HCAP.out) (fun h=>dre_none HPN.out h) eeCells_one (by have:=HSZ.out; have:=HNL.out; omega) HB7.out.size ?_
      intro p11 c11 w11 ho11 hg11 _
      have hb11:=HB7.out.grown hg11 HB7.out.size (fun k hk=>(World.ownsRow.lt HO7.out k hk).1)
      rw [HLE.out,HCE.out] at ho11
      have HO11:=Hi ho11
      have HB11:=Hi hb11
      refine hK.out _ _ (AgAt.kept HX0.out hb11) (fun hS=>?_)
      clear hK K hb11 ho11 hg11
      rw [HLE.out]
      refine tX 12 rfl hS ?_
      go_simp
      refine wpAnyH_done (by kernel_rfl) ?_ _
      go_simp
      have HE:=Hi (HOUT.out w11 p11 c11 HB11.out HO11.out)
      clear hS
      go_wp2
      go_ret
      exact HE.out
    ·have hb:=(Below.refl wd.heap.size wd).alloc (Nat.le_refl _) (.cells (eeA e) 99)
     have HRW:=Hi (rd_ee_one wd e 99)
     have HB6:=Hi ((Below.refl wd.heap.size wd).trans (hb.mono (Below.refl wd.heap.size wd).size))
     have HC6:=Hi (show wd.heap.size<(wd.alloc (.cells (eeA e) 99)).heap.size from by simp)
     refine step_of (by kernel_rfl) ?_
     refine wp_build_re _ rfl e rfl ?_
     refine hK.out _ _ (AgAt.kept hS hb) (fun hS=>?_)
     clear hK K hb
     generalize wd.alloc (.cells (eeA e) 99)=w6 at *
     refine rD 0 rfl (fun K hK=>?_)
     have hb:=(Below.refl w6.heap.size w6).alloc (Nat.le_refl _) (.cells #[] 99)
     have HO0:=Hi (World.ownsRow_lit (base:=wd.heap.size) (e:=99) (size:=14) w6 #[] 0 HB6.out.size (by simp [maxLen]) (by simp))
     have HC0:=Hi HB6.out.size
     have HB0:=Hi (HB6.out.trans (hb.mono HB6.out.size))
     have HL0:=Hi (show w6.heap.size<(w6.alloc (.cells #[] 99)).heap.size from by simp)
     replace HRW:=Hi (HRW.out.below hb)
     have HNE:=Hi (show w6.heap.size≠wd.heap.size from by have:=HC6.out; omega)
     go_simp
     refine hK.out _ _ (AgAt.kept hS hb) (fun hS=>?_)
     clear hK K hb
     generalize w6.alloc (.cells #[] 99)=w0 at *
     refine rD 4 rfl (fun K hK=>?_)
     refine step_append_kN (by kernel_rfl) _ _ 96 rfl wd.heap.size 99 i0 _ 14 144 Tryz.underlying96 hi hz0 hz1 (by decide) hz2 (by decide) rfl _ 0 [] rfl HO0.out _ n c (eeCells (lo.take n)) rfl (by rw [eeCells_length,List.length_take,Nat.min_eq_left HNL.out]) (rd_take_re (HRD.out _ HB0.out) n) HPN.out eeCells_one (by have:=HSZ.out; have:=HNL.out; omega) HB0.out.size ?_
     intro p4 c4 w4 ho4 hg4 _
     rw [Nat.zero_add,List.nil_append] at ho4
     have hb4:=HB0.out.grown hg4 HB0.out.size (fun k hk=>by cases hk; exact HC0.out)
     have HO4:=Hi ho4
     have HB4:=Hi hb4
     replace HRW:=Hi ((Turns.of_grown hg4).rd HRW.out (fun a ha hh=>by cases ha; exact HNE.out (Option.some.inj hh)))
     refine hK.out _ _ (AgAt.kept HX0.out hb4) (fun hS=>?_)
     clear hK K hb4 ho4 hg4
     rw [Nat.zero_add]
     refine rD 7 rfl (fun K hK=>?_)
     refine step_append_kN (by kernel_rfl) _ _ 96 rfl wd.heap.size 99 i0 _ 14 144 Tryz.underlying96 hi hz0 hz1 (by decide) hz2 (by decide) rfl (.slice p4 n c4) n (eeCells (lo.take n)) rfl HO4.out _ 1 1 (eeL e) rfl rfl HRW.out (fun h=>by cases h) (eeL_one _) (by have:=HSZ.out; have:=HNL.out; omega) HB4.out.size ?_
     intro p7 c7 w7 ho7 hg7 _
     have hb7:=HB4.out.grown hg7 HB4.out.size (fun k hk=>(World.ownsRow.lt HO4.out k hk).1)
     have HO7:=Hi ho7
     have HB7:=Hi hb7
     refine hK.out _ _ (AgAt.kept HX0.out hb7) (fun hS=>?_)
     clear hK K hb7 ho7 hg7
     refine rD 11 rfl (fun K hK=>?_)
     refine step_append_kN (by kernel_rfl) _ _ 96 rfl wd.heap.size 99 i0 _ 14 144 Tryz.underlying96 hi hz0 hz1 (by decide) hz2 (by decide) rfl (.slice p7 (n+1) c7) (n+1) (eeCells (lo.take n) ++ eeL e) rfl HO7.out _ (lo.length - n) (c - n) (eeCells (lo.drop n)) rfl (by rw [eeCells_length,List.length_drop]) (rd_drop_re (HRD.out _ HB7.out) n HCAP.out) (fun h=>dre_none HPN.out h) eeCells_one (by have:=HSZ.out; have:=HNL.out; omega) HB7.out.size ?_
     intro p11 c11 w11 ho11 hg11 _
     have hb11:=HB7.out.grown hg11 HB7.out.size (fun k hk=>(World.ownsRow.lt HO7.out k hk).1)
     rw [HLE.out,HCE.out] at ho11
     have HO11:=Hi ho11
     have HB11:=Hi hb11
     refine hK.out _ _ (AgAt.kept HX0.out hb11) (fun hS=>?_)
     clear hK K hb11 ho11 hg11
     rw [HLE.out]
     refine tX 12 rfl hS ?_
     go_simp
     refine wpAnyH_done (by kernel_rfl) ?_ _
     go_simp
     have HE:=Hi (HOUT.out w11 p11 c11 HB11.out HO11.out)
     clear hS
     go_wp2
     go_ret
     exact HE.out
end Go.Proofs.YtfgnmnkihbgjnaaGreat

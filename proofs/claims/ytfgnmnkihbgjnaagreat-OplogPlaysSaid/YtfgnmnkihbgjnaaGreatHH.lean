/-
  THE DOCUMENT'S LOG: Vector, Time, Digest.
  No conditions but sizes.
  THE DOCUMENT'S LOG: Since.
  No conditions but sizes.
  THE LAW'S HELPER Alike: the same batches, wherever they lie.
  No conditions but sizes.
  THE DOCUMENT'S ENTRIES IN MEMORY: their rows, parts of them; one entry made.
  No conditions.
-/
import Derived.Test.YtfgnmnkihbgjnaaGreatSh
import Derived.Test.YtfgnmnkihbgjnaaGreatRgMath
import Derived.Test.YtfgnmnkihbgjnaaGreatHI
import Derived.Test.YtfgnmnkihbgjnaaGreatGS
import Derived.Test.YtfgnmnkihbgjnaaGreatR8Put
import Derived.Test.YtfgnmnkihbgjnaaGreatHG
import Derived.Test.YtfgnmnkihbgjnaaGreatGQ
import Derived.Test.YtfgnmnkihbgjnaaGreatHD
import Derived.Test.YtfgnmnkihbgjnaaGreatGN
set_option maxRecDepth 100000
set_option maxHeartbeats 8000000
namespace Go.Proofs.YtfgnmnkihbgjnaaGreat
open Go.RowKit
theorem rgvector_any {R:Nat} {m:Rm} {F:Nat→Prop} (w:World) (h:Rg w R m F) (ho:LgOk m.lg) :
  Calls Tryz.prog 44 #[.pointer (some ⟨R,0,none⟩)] w fun e w'=>e=.returned (.agg (vecA (vecL9 m.lg)))∧Below w.heap.size w w':=by
 rw [Rm.vec]
 have hb1:=(Below.refl w.heap.size w).alloc (Nat.le_refl _) (.cells (vecA fun _=>0) 24)
 have hb2:=(Below.refl (w.alloc (.cells (vecA fun _=>0) 24)).heap.size _).alloc (Nat.le_refl _) (.cells (vecA fun _=>0) 24)
 have HZ:=Hi ((VAt.new w (fun _=>0) 24).kept hb2)
 have hv:=VAt.new (w.alloc (.cells (vecA fun _=>0) 24)) (fun _=>0) 24
 rw [show (w.alloc (.cells (vecA fun _=>0) 24)).heap.size=w.heap.size+1 from by simp] at hv
 have HV:=Hi hv
 have HB:=Hi (hb1.trans (hb2.mono (by simp)))
 have HR:=Hi (fun W (hW:Below w.heap.size w W)=>h.kept hW)
 have HL:=Hi (fun (k:Nat) (hk:k<16)=>Rm.len ho hk)
 have hlt0:=h.slt
 clear h hb1 hb2 hv ho
 go_enter Tryz.func44,Tryz.ntmps44
 go_wp2
 go_loopw [4] (fun i wr=>∃ k:Nat,k≤16∧i=.int .i64 (k:Int)∧VAt wr w.heap.size (fun _=>0)∧VAt wr (w.heap.size+1) (upTo k (fun r=>((m.el r).length:Int)) (fun _=>0))∧Below w.heap.size w wr) (fun i _=>16 - (intOf i).toNat)
 case atStart=>exact ⟨0,by omega,rfl,HZ.out,by rw [upTo_zero]; exact HV.out,HB.out⟩
 case round =>
  clear HZ HV HB
  obtain ⟨k,hk,rfl,hz,hv,hbw⟩:=hrel
  have HZ:=Hi hz
  have HV:=Hi hv
  have HB:=Hi hbw
  clear hz hv hbw
  by_cases hlt:k<16
  ·have hri:(k:Int)<16:=by omega
   have yc:=(HR.out wr HB.out).cell hlt
   have hc:=HV.out.cell k hlt
   have hf:=HV.out.free k
   have hln:=HL.out k hlt
   have HN:=Hi (show VAt (wr.setCell ⟨w.heap.size+1,k,none⟩ (.int .i64 ((m.el k).length:Int))) (w.heap.size+1) (upTo (k+1) (fun r=>((m.el r).length:Int)) (fun _=>0)) from by
    have:=HV.out.set k ((m.el k).length:Int)
    rw [upTo_step (fun r=>((m.el r).length:Int))] at this
    exact this)
   have HNZ:=Hi (HZ.out.setOther (c:=w.heap.size+1) (by omega) k (.int .i64 ((m.el k).length:Int)))
   have HBN:=Hi (HB.out.setCell (p:=⟨w.heap.size+1,k,none⟩) (Nat.le_succ _) (.int .i64 ((m.el k).length:Int)))
   generalize (m.el k).length=n at *
   go_wp2
   go_roundw
   case rel=>exact ⟨k+1,by omega,by go_num,HNZ.out,HN.out,HBN.out⟩
   case measure=>simp [intOf]; omega
  ·obtain rfl:k=16:=by omega
   have HF:=Hi (HV.out.congr (c:=fun r=>((m.el r).length:Int)) (upTo_all _ _))
   go_wp2_with (first | (refine wpList_load_vec vtR rfl _ rfl _ rfl _ HF.out ?_) | (refine wpList_store_vec vtR rfl _ _ rfl _ rfl _ _ HZ.out rfl ?_; intro w2 hv2 _ _ hb2))
   exact bodyPost_ret (results_vec vtR _ rfl hv2 rfl) rfl ⟨rfl,hb2 _ _ HB.out (Nat.le_refl _)⟩
theorem rgtime_any {R:Nat} {m:Rm} {F:Nat→Prop} (w:World) (h:Rg w R m F) (ho:LgOk m.lg) :
  Calls Tryz.prog 45 #[.pointer (some ⟨R,0,none⟩)] w fun e w'=>e=.returned (.int .i64 (tmD m.lg 16))∧Below w.heap.size w w':=by
 have HR:=Hi (fun W (hW:Below w.heap.size w W)=>h.kept hW)
 have HL:=Hi (fun (k:Nat) (hk:k<16)=>Rm.len ho hk)
 have HRG:=Hi ho.right
 clear h ho
 go_enter Tryz.func45,Tryz.ntmps45
 go_wp2
 go_loopw [3,4] (fun t i wr=>∃ k:Nat,k≤16∧i=.int .i64 (k:Int)∧t=.int .i64 (tmD m.lg k)∧Below w.heap.size w wr) (fun _ i _=>16 - (intOf i).toNat)
 case atStart=>exact ⟨0,by omega,rfl,rfl,Below.refl _ _⟩
 case round =>
  obtain ⟨k,hk,rfl,rfl,hbw⟩:=hrel
  have HB:=Hi hbw
  clear hbw
  by_cases hlt:k<16
  ·have hri:(k:Int)<16:=by omega
   have yc:=(HR.out wr HB.out).cell hlt
   have hln:=HL.out k hlt
   have HTS:=Hi (show tmD m.lg (k+1)=if (m.lg.row k).length=0 then tmD m.lg k else max (tmD m.lg k) (lastR m.lg k).1 from rfl)
   have HLG:=Hi (show (m.lg.row k).length=(m.el k).length from by simp [Rm.lg])
   by_cases h0:(m.el k).length=0
   ·rw [h0] at yc
    have HE:=Hi (show tmD m.lg (k+1)=tmD m.lg k from by rw [HTS.out,if_pos (by rw [HLG.out]; exact h0)])
    go_wp2
    go_roundw
    case rel=>exact ⟨k+1,by omega,by go_num,by rw [HE.out],HB.out⟩
    case measure=>simp [intOf]; omega
   ·obtain ⟨j,hj⟩:∃ j,(m.el k).length=j+1:=⟨(m.el k).length - 1,by omega⟩
    have HJL:=Hi (show j<(m.el k).length from by omega)
    have HMEM:=Hi (beOf_mem HJL.out)
    obtain ⟨b,hq,-⟩:=rob_cells ((HR.out wr HB.out).row k hlt) HJL.out
    have HRD:=Hi ((HR.out wr HB.out).row k hlt).rd
    rw [hq] at HRD yc
    have HEN:=Hi (r8end_any (beOf (m.el k) j).x (beOf (m.el k) j).p (beOf (m.el k) j).c wr (HRG.out k hlt _ (List.mem_map.2 ⟨_,HMEM.out,rfl⟩)).szs ((((HR.out wr HB.out).row k hlt).ops _ HMEM.out).bops))
    have HE:=Hi (show tmD m.lg (k+1)=max (tmD m.lg k) (endT (beOf (m.el k) j).x).1 from by rw [HTS.out,if_neg (by rw [HLG.out]; exact h0),lastRm_at hj])
    have HFD:=fun W=>run_field_st (endT (beOf (m.el k) j).x).1 (endT (beOf (m.el k) j).x).2 W
    rw [hj] at yc
    have e1:((j+1:Nat):Int) - 1=(j:Int):=by omega
    have w0:IntKind.i64.wrap (j:Int)=(j:Int):=wraps_i64 _ (by omega) (by omega)
    have hri2:(0:Int)≤(j:Int)∧(j:Int)<(j:Int)+1:=by omega
    have d0:decide ((0:Int)<(j:Int)+1)=true:=decide_eq_true (by omega)
    go_wp2_with (refine wpList_load_be0 btR rfl _ rfl b j rfl (m.el k) HRD.out HJL.out ?_)
    refine HEN.out.mono ?_
    rintro e w2 ⟨rfl,hb2⟩
    have HB2:=Hi (HB.out.trans (hb2.mono HB.out.size))
    clear hb2
    generalize (endT (beOf (m.el k) j).x).1=en at *
    generalize (endT (beOf (m.el k) j).x).2=en2 at *
    generalize tmD m.lg k=tk at *
    go_wp2
    go_roundw
    case rel=>exact ⟨k+1,by omega,by go_num,by rw [HE.out]; congr 1; split <;> omega,HB2.out⟩
    case measure=>simp [intOf]; omega
  ·obtain rfl:k=16:=by omega
   go_wp2
   go_ret
   exact ⟨rfl,HB.out⟩
theorem rgdigest_any {R:Nat} {m:Rm} {F:Nat→Prop} (w:World) (h:Rg w R m F) (ho:LgOk m.lg) :
  Calls Tryz.prog 46 #[.pointer (some ⟨R,0,none⟩)] w fun e w'=>e=.returned (.int .i64 (digL m.lg))∧Below w.heap.size w w':=by
 obtain ⟨i0,hi,hz0,hz1,hz2⟩:=info_parts info_u8
 have HR:=Hi (fun W (hW:Below w.heap.size w W)=>h.kept hW)
 have HL:=Hi (fun (k:Nat) (hk:k<16)=>Rm.len ho hk)
 have HRG:=Hi ho.right
 clear h ho
 go_enter Tryz.func46,Tryz.ntmps46
 go_wp2
 go_loopw [3,4] (fun v i wr=>∃ k:Nat,k≤16∧i=.int .i64 (k:Int)∧Own 5 wr w.heap.size v (preBy m.lg k)∧Below w.heap.size w wr∧(preBy m.lg k).length≤40000000 * k) (fun _ i _=>16 - (intOf i).toNat)
 case atStart=>exact ⟨0,by omega,rfl,World.ownsRow_nil _ _ _ _,Below.refl _ _,by simp [preBy]⟩
 case round =>
  obtain ⟨k,hk,rfl,hown,hbw,hlen⟩:=hrel
  have HOW:=Hi hown
  have HB:=Hi hbw
  have HLN:=Hi hlen
  clear hown hbw hlen
  by_cases hlt:k<16
  ·have hri:(k:Int)<16:=by omega
   have HLG:=Hi (show m.lg.row k=(m.el k).map (·.x) from rfl)
   have hl5:=HL.out k hlt
   have HPT:=Hi (fun (j:Nat) (hj:j<(m.el k).length) W (hW:Below w.heap.size w W)=>by
    have hok:=HRG.out k hlt _ (List.mem_map.2 ⟨_,beOf_mem hj,rfl⟩)
    have:=r8put_any (beOf (m.el k) j).x (beOf (m.el k) j).p (beOf (m.el k) j).c W hok.szs ((((HR.out W hW).row k hlt).ops _ (beOf_mem hj)).bops)
    rw [putT_ok hok.right] at this
    exact this)
   have HBL:=Hi (fun (j:Nat) (hj:j<(m.el k).length)=>batB_len (HRG.out k hlt _ (List.mem_map.2 ⟨_,beOf_mem hj,rfl⟩)).right)
   go_wp2
   go_loopw [3,5] (fun v i wr=>∃ j:Nat,j≤(m.el k).length∧i=.int .i64 (j:Int)∧Own 5 wr w.heap.size v (preBy m.lg k ++ rowBy ((m.lg.row k).take j))∧Below w.heap.size w wr∧(preBy m.lg k ++ rowBy ((m.lg.row k).take j)).length≤40000000 * k+70000 * j) (fun _ i _=>(m.el k).length - (intOf i).toNat)
   case atStart=>exact ⟨0,Nat.zero_le _,rfl,by simpa [rowBy] using HOW.out,HB.out,by have:=HLN.out; simp [rowBy]; omega⟩
   case round =>
    obtain ⟨j,hj,rfl,hown,hbw,hlen⟩:=hrel
    have HOW2:=Hi hown
    have HB2:=Hi hbw
    have HLN2:=Hi hlen
    clear hown hbw hlen HOW HB
    have yc:=(HR.out _ HB2.out).cell hlt
    by_cases hjl:j<(m.el k).length
    ·have hd0:decide ((j:Int)<((m.el k).length:Int))=true:=decide_eq_true (by omega)
     obtain ⟨b,hq,-⟩:=rob_cells ((HR.out _ HB2.out).row k hlt) hjl
     have HRD:=Hi ((HR.out _ HB2.out).row k hlt).rd
     rw [hq] at HRD yc
     have HPJ:=Hi (HPT.out j hjl)
     have HBJ:=Hi (HBL.out j hjl)
     have HJL:=Hi hjl
     have hjl2:(j:Int)<((m.el k).length:Int):=by omega
     have HTK:=Hi (show rowBy ((m.lg.row k).take (j+1))=rowBy ((m.lg.row k).take j) ++ batB (beOf (m.el k) j).x from by
      rw [rowBy_take _ _ (by rw [HLG.out,List.length_map]; exact hjl)]
      simp [HLG.out,beOf,hjl])
     go_wp2_with (refine wpList_load_be0 btR rfl _ rfl b j rfl (m.el k) HRD.out HJL.out ?_)
     refine (HPJ.out _ HB2.out).mono ?_
     rintro e w5 ⟨v5,rfl,hown5,hb5⟩
     obtain ⟨p5,c5,rfl,hbs5,-,-,hpn5,-⟩:=hown5.bs
     have HB5:=Hi (HB2.out.trans (hb5.mono HB2.out.size))
     have HOW5:=Hi (Own.below HOW2.out hb5)
     have HBS5:=Hi hbs5
     have HSZ5:=Hi HB5.out.size
     clear hown5 hb5 hbs5
     generalize hacc:preBy m.lg k ++ rowBy ((m.lg.row k).take j)=acc at *
     generalize hbb:batB (beOf (m.el k) j).x=bb at *
     go_wp2_with (at_builtin; refine wpList_append_bs rfl _ _ 103 rfl w.heap.size 5 i0 Tryz.underlying103 hi hz0 hz1 hz2 _ acc rfl HOW5.out p5 c5 bb rfl HBS5.out hpn5 ?b0 ?b1 ?_)
     case b0=>have:=HLN2.out; have:=HBJ.out; omega
     case b1=>exact HSZ5.out
     intro v6 w6 hown6 hbel6 _ _
     have HOW6:=Hi (show Own 5 w6 w.heap.size v6 (preBy m.lg k ++ rowBy ((m.lg.row k).take (j+1))) from by rw [HTK.out,← List.append_assoc,hacc]; exact hown6)
     have HB6:=Hi (HB5.out.trans hbel6)
     have HLN6:=Hi (show (preBy m.lg k ++ rowBy ((m.lg.row k).take (j+1))).length≤40000000 * k+70000 * (j+1) from by rw [HTK.out,← List.append_assoc,hacc,List.length_append]; have:=HLN2.out; have:=HBJ.out; omega)
     clear hown6 hbel6
     go_wp2
     go_roundw
     case rel=>exact ⟨j+1,by omega,by go_num,HOW6.out,HB6.out,HLN6.out⟩
     case measure=>simp [intOf]; omega
    ·obtain rfl:j=(m.el k).length:=by omega
     have hd0:decide (((m.el k).length:Int)<((m.el k).length:Int))=false:=decide_eq_false (by omega)
     have HT:=Hi (show preBy m.lg k ++ rowBy ((m.lg.row k).take (m.el k).length)=preBy m.lg (k+1) from by
      rw [preBy_succ,List.take_of_length_le (by rw [HLG.out,List.length_map]; exact Nat.le_refl _)])
     rw [HT.out] at HOW2 HLN2
     go_wp2
     go_roundw
     case rel=>exact ⟨k+1,by omega,by go_num,HOW2.out,HB2.out,by have:=HLN2.out; omega⟩
     case measure=>simp [intOf]; omega
  ·obtain rfl:k=16:=by omega
   obtain ⟨p,c,e,hbs,-,-,-,-⟩:=HOW.out.bs
   subst e
   have HSU:=Hi (refSum_any p c (preBy m.lg 16) wr hbs (by have:=HLN.out; simp [maxLen]; omega))
   go_wp2_with fail
   refine HSU.out.mono ?_
   rintro e w2 ⟨rfl,rfl⟩
   go_wp2
   go_ret
   exact ⟨rfl,HB.out⟩
open Go.RowKit
def RSinced (F:Nat→Prop) (l:List Bat) (w:World) (e:Ending) (w':World):Prop :=
 ∃ p c lo,e=.returned (.slice p lo.length c)∧lo.map (·.x)=l∧Rd w' p (beCells lo)∧(∀ b,b ∈ lo→BopsF F w' b.x b.p b.c)∧Below w.heap.size w w'
theorem since_more {l:List Bat} {P:List Bat} {n:Int} {x:Bat} (h:l=P.take n.toNat) (hn:(l.length:Int)<n):l ++ [x]=(P ++ [x]).take n.toNat:=by
 have h1:P.length<n.toNat:=by
  have h2:=congrArg List.length h
  rw [List.length_take] at h2
  omega
 rw [List.take_of_length_le (by simp; omega),h,List.take_of_length_le (by omega)]
theorem since_stop {l:List Bat} {P t:List Bat} {n:Int} (h:l=P.take n.toNat) (hn:n≤(l.length:Int)):l=(P ++ t).take n.toNat:=by
 have h2:=congrArg List.length h
 rw [List.length_take] at h2
 rw [List.take_append_of_le_length (by omega)]
 exact h
theorem rgsince_any {R:Nat} {m:Rm} {F:Nat→Prop} (a:Nat→Int) (n:Int) (w:World) (h:Rg w R m F) (ho:LgOk m.lg) :
  Calls Tryz.prog 48 #[.pointer (some ⟨R,0,none⟩),.agg (vecA a),.int .i64 n] w (RSinced F (sinceL m.lg a n) w):=by
 obtain ⟨i0,hi,hz0,hz1,hz2⟩:=info_parts oinfo_rbt
 have hb:=(Below.refl w.heap.size w).alloc (Nat.le_refl _) (.cells (vecA a) 24)
 have HV:=Hi (fun W (hW:Below (w.alloc (.cells (vecA a) 24)).heap.size (w.alloc (.cells (vecA a) 24)) W)=>(VAt.new w a 24).kept hW)
 have HB:=Hi hb
 have HR:=Hi (fun W (hW:Below w.heap.size w W)=>h.kept hW)
 have HL:=Hi (fun (k:Nat) (hk:k<16)=>Rm.len ho hk)
 have HTOT:=Hi ho.tot
 have HRI:=Hi (fun W=>refRight_any a W)
 have HV0:=Hi (VAt.new w a 24)
 clear h hb
 go_enter Tryz.func48,Tryz.ntmps48
 cases hr:vRight a with
 | false =>
  rw [hr] at HRI
  have HE:=Hi (fun W (hW:Below w.heap.size w W)=>show RSinced F (sinceL m.lg a n) w (.returned (.slice none 0 0)) W from ⟨none,0,[],rfl,by rw [sinceL_bad hr]; rfl,Rd.nil _ _,fun _ h=>(by cases h),hW⟩)
  clear hr
  go_wp2_with (refine wpList_load_vec vtR rfl _ rfl _ rfl _ HV0.out ?_)
  refine (HRI.out _).mono ?_
  rintro e w2 ⟨rfl,hb2⟩
  have HE2:=Hi (HE.out _ (HB.out.trans (hb2.mono HB.out.size)))
  clear hb2
  go_wp2
  go_ret
  exact HE2.out
 | true =>
  rw [hr] at HRI
  have HVR:=Hi (vRight_iff.1 hr)
  have HSL:=Hi (show sinceL m.lg a n=(preS m.lg a 16).take n.toNat from by unfold sinceL; rw [if_pos hr])
  clear hr
  go_wp2_with (refine wpList_load_vec vtR rfl _ rfl _ rfl _ HV0.out ?_)
  refine (HRI.out _).mono ?_
  rintro e w2 ⟨rfl,hb2⟩
  have HB2:=Hi (HB.out.trans (hb2.mono HB.out.size))
  have HV2:=Hi (fun W (hW:Below w2.heap.size w2 W)=>HV.out W (hb2.trans (hW.mono hb2.size)))
  clear hb2 HV HV0 HB HRI
  go_wp2
  go_loopw [7,8] (fun v i wr=>∃ (k:Nat) (p:Option Addr) (c:Nat) (lo:List Be),k≤16∧i=.int .i64 (k:Int)∧v=.slice p lo.length c∧lo.map (·.x)=(preS m.lg a k).take n.toNat∧wr.ownsRow w2.heap.size 43 4 (.slice p lo.length c) lo.length (beCells lo)∧(∀ b,b ∈ lo→BopsF F wr b.x b.p b.c)∧lo.length≤513 * k∧Below w2.heap.size w2 wr) (fun _ i _=>16 - (intOf i).toNat)
  case atStart=>exact ⟨0,none,0,[],by omega,rfl,rfl,by simp [preS],World.ownsRow_nil _ _ _ _,fun _ h=>(by cases h),by simp,Below.refl _ _⟩
  case round =>
   obtain ⟨k,p,c,lo,hk,rfl,rfl,hm,hown,hops,hlen,hbw⟩:=hrel
   have HM:=Hi hm
   have HOW:=Hi hown
   have HOP:=Hi hops
   have HLE:=Hi hlen
   have HBW:=Hi hbw
   clear hm hown hops hlen hbw
   by_cases hlt:k<16
   ·have hri:(k:Int)<16:=by omega
    obtain ⟨D,hD⟩:∃ D:Nat,a k=(D:Int):=⟨(a k).toNat,by have:=HVR.out k hlt; omega⟩
    have hv:=(HV2.out _ HBW.out).cell k hlt
    rw [hD] at hv
    have HPS:=Hi (show preS m.lg a (k+1)=preS m.lg a k ++ ((m.el k).drop D).map (·.x) from by rw [preS_succ,hD,Int.toNat_natCast]; simp [Rm.lg,List.map_drop])
    have hdb:(D:Int)≤512:=by have:=HVR.out k hlt; omega
    have hln:=HL.out k hlt
    go_wp2
    go_loopw [7,9] (fun v i wr=>∃ (q:Nat) (p:Option Addr) (c:Nat) (lo:List Be),D≤q∧(q≤(m.el k).length∨q=D)∧i=.int .i64 (q:Int)∧v=.slice p lo.length c∧lo.map (·.x)=(preS m.lg a k ++ (((m.el k).drop D).take (q - D)).map (·.x)).take n.toNat∧wr.ownsRow w2.heap.size 43 4 (.slice p lo.length c) lo.length (beCells lo)∧(∀ b,b ∈ lo→BopsF F wr b.x b.p b.c)∧lo.length≤513 * k+(q - D)∧Below w2.heap.size w2 wr) (fun _ i _=>(m.el k).length - (intOf i).toNat)
    case atStart=>exact ⟨D,p,c,lo,Nat.le_refl _,Or.inr rfl,rfl,rfl,by rw [Nat.sub_self]; simpa using HM.out,HOW.out,HOP.out,by have:=HLE.out; omega,HBW.out⟩
    case round =>
     clear HM HOW HOP HLE HBW hv
     obtain ⟨q,p,c,lo,hDq,hq,rfl,rfl,hm,hown,hops,hlen,hbw⟩:=hrel
     have HM:=Hi hm
     have HOW:=Hi hown
     have HOP:=Hi hops
     have HLE:=Hi hlen
     have HBW:=Hi hbw
     have HBW0:=Hi (HB2.out.trans (hbw.mono HB2.out.size))
     clear hm hown hops hlen hbw
     have yc:=(HR.out _ HBW0.out).cell hlt
     by_cases hql:q<(m.el k).length
     ·have hd1:decide ((q:Int)<((m.el k).length:Int))=true:=decide_eq_true (by omega)
      by_cases hnl:(lo.length:Int)<n
      ·have hd2:decide ((lo.length:Int)<n)=true:=decide_eq_true hnl
       obtain ⟨b,hqq,-⟩:=rob_cells ((HR.out _ HBW0.out).row k hlt) hql
       have HRD:=Hi ((HR.out _ HBW0.out).row k hlt).rd
       rw [hqq] at HRD yc
       have HQL:=Hi hql
       have hql2:(q:Int)<((m.el k).length:Int):=by omega
       have HBE:=Hi (((HR.out _ HBW0.out).row k hlt).ops _ (beOf_mem hql))
       have HTK:=Hi (show lo.map (·.x) ++ [(beOf (m.el k) q).x]=(preS m.lg a k ++ (((m.el k).drop D).take (q+1 - D)).map (·.x)).take n.toNat from by
        have h1:((m.el k).drop D).take (q+1 - D)=((m.el k).drop D).take (q - D) ++ [beOf (m.el k) q]:=by
         rw [show q+1 - D=(q - D)+1 from by omega,List.take_succ_eq_append_getElem (by rw [List.length_drop]; omega)]
         congr 1
         simp only [List.getElem_drop,show D+(q - D)=q from by omega]
         simp [beOf,hql]
        rw [h1,List.map_append,← List.append_assoc]
        exact since_more HM.out (by rw [List.length_map]; exact hnl))
       have HRW:=Hi (rd_bt_one wr (beOf (m.el k) q) 43)
       have hb4:=(Below.refl wr.heap.size wr).alloc (Nat.le_refl _) (.cells (btA (beOf (m.el k) q).x (beOf (m.el k) q).p (beOf (m.el k) q).c) 43)
       have HOW4:=Hi (own_belowK HOW.out hb4)
       have HOP4:=Hi (fun e he=>(HOP.out e he).below hb4)
       have HBE4:=Hi (HBE.out.below hb4)
       have HBW4:=Hi (HBW.out.trans (hb4.mono HBW.out.size))
       have HFL:=Hi (fun j hj=>(HR.out _ HB2.out).lt j hj)
       have HBS:=Hi (show lo.length+1≤10000 from by have:=HLE.out; omega)
       clear hb4
       generalize hy:beOf (m.el k) q=y at *
       have HY:=Hi hy
       clear hy
       go_wp2_with (first | (refine wpList_load_be0 btR rfl _ rfl b q rfl (m.el k) HRD.out HQL.out ?_; rw [HY.out]) | (refine wpList_build_rbt rfl _ rfl y.x y.p y.c rfl ?_) | (at_builtin; refine wpList_append_k rfl _ _ 22 rfl w2.heap.size 43 i0 _ 4 48 Tryz.underlying22 hi hz0 hz1 (by decide) hz2 (by decide) rfl _ lo.length (beCells lo) rfl HOW4.out _ 1 1 (beL y) rfl rfl HRW.out (fun h=>by cases h) (beL_one _) HBS.out HBW4.out.size ?_; intro p9 c9 w9 ho9 hg9 _))
       have HO9:=Hi (show w9.ownsRow w2.heap.size 43 4 (.slice p9 (lo ++ [y]).length c9) (lo ++ [y]).length (beCells (lo ++ [y])) from by
        rw [show (lo ++ [y]).length=lo.length+1 from by simp,beCells_append,beCells_sing]; exact ho9)
       have HOP9:=Hi (show ∀ e,e ∈ lo ++ [y]→BopsF F w9 e.x e.p e.c from fun e he=>by
        have h1:BopsF F (wr.alloc (.cells (btA y.x y.p y.c) 43)) e.x e.p e.c:=by
         rcases List.mem_append.1 he with he | he
         ·exact HOP4.out e he
         ·obtain rfl:e=y:=by simpa using he
          exact HBE4.out
        exact h1.turns (Turns.of_grown hg9) fun j hj hh=>by
         have:=HFL.out j hj
         have:=(World.ownsRow.lt HOW4.out j hh).1
         omega)
       have HBW9:=Hi (HBW4.out.trans ((Turns.of_grown hg9).below (fun j _ hj=>(World.ownsRow.lt HOW4.out j hj).1) HBW4.out.size))
       have HLL:=Hi (show (lo ++ [y]).length=lo.length+1 from by simp)
       clear ho9 hg9
       go_wp2
       go_roundw
       case rel=>exact ⟨q+1,p9,c9,lo ++ [y],by omega,Or.inl (by omega),by go_num,by rw [HLL.out],by rw [List.map_append]; exact HTK.out,HO9.out,HOP9.out,by rw [HLL.out]; have:=HLE.out; omega,HBW9.out⟩
       case measure=>simp [intOf]; omega
      ·have hd2:decide ((lo.length:Int)<n)=false:=decide_eq_false hnl
       have HE:=Hi (show lo.map (·.x)=(preS m.lg a (k+1)).take n.toNat from by
        have h1:((m.el k).drop D).map (·.x)=(((m.el k).drop D).take (q - D)).map (·.x) ++ (((m.el k).drop D).drop (q - D)).map (·.x):=by rw [← List.map_append,List.take_append_drop]
        rw [HPS.out,h1,← List.append_assoc]
        exact since_stop HM.out (by rw [List.length_map]; omega))
       go_wp2
       go_roundw
       case rel=>exact ⟨k+1,p,c,lo,by omega,by go_num,rfl,HE.out,HOW.out,HOP.out,by have:=HLE.out; omega,HBW.out⟩
       case measure=>simp [intOf]; omega
     ·have hd1:decide ((q:Int)<((m.el k).length:Int))=false:=decide_eq_false (by omega)
      have HE:=Hi (show lo.map (·.x)=(preS m.lg a (k+1)).take n.toNat from by
       rw [HPS.out,← List.take_of_length_le (l:=(m.el k).drop D) (i:=q - D) (by rw [List.length_drop]; omega)]
       exact HM.out)
      go_wp2
      go_roundw
      case rel=>exact ⟨k+1,p,c,lo,by omega,by go_num,rfl,HE.out,HOW.out,HOP.out,by have:=HLE.out; omega,HBW.out⟩
      case measure=>simp [intOf]; omega
   ·obtain rfl:k=16:=by omega
    obtain ⟨p2,c2,e2,h1,-,-,-,-⟩:=own_rd HOW.out
    obtain ⟨rfl,rfl⟩:p=p2∧c=c2:=by cases e2; exact ⟨rfl,rfl⟩
    have HE:=Hi (show RSinced F (sinceL m.lg a n) w (.returned (.slice p lo.length c)) wr from ⟨p,c,lo,rfl,by rw [HSL.out]; exact HM.out,h1,HOP.out,HB2.out.trans (HBW.out.mono HB2.out.size)⟩)
    clear h1 e2
    go_wp2
    go_ret
    exact HE.out
open Go.RowKit
theorem exec_load_be9 {w:World} {t:TypeId} (V:AgT t 4) {c:Act} {o:Oper} {x:Operand} (ho:o.op=.load t x) {b s i:Nat} (hx:c.eval x=.pointer (some ⟨b,s+i * 4,none⟩)) (l:List Be) (hrd:Rd w (some ⟨b,s,none⟩) (beCells l)) (hi:i<l.length) :
  (execOp c.eval o).run Tryz.prog w=.ok (.value (.agg (btA (beOf l i).x (beOf l i).p (beOf l i).c))) w:=by
 obtain ⟨d,hu⟩:=V.und
 have h1:=hrd.be i hi
 have hr:=run_loadAt_mid (P:=Tryz.prog) w b (s+i * 4) t (beL (beOf l i)) _ h1 hu rfl V.size
 unfold execOp
 simp only [ho,hx,Sem.run_bind,hr,Result.andThen_ok,Sem.run_pure]
 rfl
theorem beOf_same {la lb:List Be} (h:la.map (·.x)=lb.map (·.x)) (k:Nat):(beOf la k).x=(beOf lb k).x:=by
 have h1:∀ l:List Be,(beOf l k).x=(l.map (·.x)).getD k Bat.zero:=fun l=>by
  unfold beOf
  rw [List.getD_eq_getElem?_getD,List.getD_eq_getElem?_getD,List.getElem?_map]
  cases l[k]? <;> rfl
 rw [h1,h1,h]
theorem alike_any (p q:Option Addr) (c d:Nat) (la lb:List Be) (w:World) (ha:Rd w p (beCells la)) (hao:∀ e,e ∈ la→Bops w e.x e.p e.c) (hb:Rd w q (beCells lb)) (hbo:∀ e,e ∈ lb→Bops w e.x e.p e.c) (he:la.map (·.x)=lb.map (·.x)) (hs:∀ e,e ∈ la→Szs e.x.ops∧CpSz e.x) (hl:la.length≤100000) :
  Calls Tryz.prog 12 #[.slice p la.length c,.slice q lb.length d] w fun e w'=>e=.returned (.bool true)∧Below w.heap.size w w':=by
 have hln:la.length=lb.length:=by have:=congrArg List.length he; simpa using this
 have HRA:=Hi (fun W (hW:Below w.heap.size w W)=>ha.below hW)
 have HRB:=Hi (fun W (hW:Below w.heap.size w W)=>hb.below hW)
 have HRF:=Hi (fun (k:Nat) (hk:k<la.length) W (hW:Below w.heap.size w W)=>bref_any (beOf la k).x (beOf la k).p (beOf la k).c W ((hao _ (beOf_mem hk)).kept hW) (hs _ (beOf_mem hk)).2.1 (hs _ (beOf_mem hk)).2.2)
 have HSA:=Hi (fun (k:Nat) (hk:k<la.length) W (hW:Below w.heap.size w W) (p1:Option Addr) (c1:Nat) (h1:Bops W (beOf la k).x p1 c1)=>by
  have:=r8same_any (beOf la k).x (beOf lb k).x p1 (beOf lb k).p c1 (beOf lb k).c W (hs _ (beOf_mem hk)).1 h1 ((hbo _ (beOf_mem (by omega))).kept hW)
  rw [show sameT (beOf la k).x (beOf lb k).x=true from by rw [beOf_same he k]; exact sameT_refl _] at this
  exact this)
 have HLN:=Hi hln
 clear ha hao hb hbo he hs
 have d0:((la.length:Int) != (lb.length:Int))=false:=by rw [hln]; simp
 go_enter Tryz.func12,Tryz.ntmps12
 go_wp2
 go_loopw [5] (fun i wr=>∃ k:Nat,k≤la.length∧i=.int .i64 (k:Int)∧Below w.heap.size w wr) (fun i _=>la.length - (intOf i).toNat)
 case atStart=>exact ⟨0,Nat.zero_le _,rfl,Below.refl _ _⟩
 case round =>
  obtain ⟨k,hk,rfl,hbw⟩:=hrel
  have HBW:=Hi hbw
  clear hbw d0
  by_cases hlt:k<la.length
  ·have hd0:decide ((k:Int)<(la.length:Int))=true:=decide_eq_true (by omega)
   have HKA:=Hi hlt
   have HKB:=Hi (show k<lb.length from by omega)
   obtain ⟨b,o,rfl,-⟩:=(HRA.out _ HBW.out).addr (by rw [beCells_length]; omega)
   obtain ⟨b',o',rfl,-⟩:=(HRB.out _ HBW.out).addr (by rw [beCells_length]; have:=HKB.out; omega)
   have HK1:=Hi (show (k:Int)<(la.length:Int) from by omega)
   have HK2:=Hi (show (k:Int)<(lb.length:Int) from by omega)
   have HREF:=Hi (fun W (hW:Below wr.heap.size wr W)=>HRF.out k hlt W (HBW.out.trans (hW.mono HBW.out.size)))
   have HSM:=Hi (fun W (hW:Below wr.heap.size wr W) p1 c1 h1=>HSA.out k hlt W (HBW.out.trans (hW.mono HBW.out.size)) p1 c1 h1)
   clear hln
   go_upto_region 6 with fail
   refine wp_region_held_drew (S:=fun W=>Below wr.heap.size wr W) (by kernel_rfl) (Below.refl _ _).drew (fun hS=>?_)
   generalize wr.drew=wd at *
   refine tX 0 rfl hS ?_
   refine tX 1 rfl hS ?_
   refine tK 2 (v:=?_) rfl ?_ hS ?_
   rotate_left
   ·intro W hSW
    have hk1:=HK1.out
    go_simp
    all_goals with_reducible rfl
   go_simp
   refine tK 3 (v:=.agg (btA (beOf la k).x (beOf la k).p (beOf la k).c)) rfl (fun W hSW=>exec_load_be9 btP rfl rfl la ((HRA.out W (HBW.out.trans (hSW.mono HBW.out.size)))) HKA.out) hS ?_
   refine tX 5 rfl hS ?_
   refine tX 6 rfl hS ?_
   refine tK 7 (v:=?_) rfl ?_ hS ?_
   rotate_left
   ·intro W hSW
    have hk1:=HK2.out
    go_simp
    all_goals with_reducible rfl
   go_simp
   refine tK 8 (v:=.agg (btA (beOf lb k).x (beOf lb k).p (beOf lb k).c)) rfl (fun W hSW=>exec_load_be9 btR rfl rfl lb ((HRB.out W (HBW.out.trans (hSW.mono HBW.out.size)))) HKB.out) hS ?_
   go_simp
   refine rD 4 rfl (fun K hK=>?_)
   go_simp
   go_wp2_with ((go_at_call 18; refine (HREF.out _ hS).mono ?_; rintro e w1 ⟨p1,c1,rfl,hp1,hb1⟩))
   have HP1:=Hi hp1
   refine hK.out _ _ (hS.trans (hb1.mono hS.size)) (fun hS=>?_)
   clear hK K hp1 hb1
   refine rD 9 rfl (fun K hK=>?_)
   go_simp
   go_wp2_with ((go_at_call 17; refine (HSM.out _ hS p1 c1 HP1.out.bops).mono ?_; rintro e w2 ⟨rfl,hb2⟩))
   refine hK.out _ _ (hS.trans (hb2.mono hS.size)) (fun hS=>?_)
   clear hK K hb2
   refine tX 10 rfl hS ?_
   go_simp
   refine wpAnyH_done (by kernel_rfl) ?_ _
   go_simp
   have HB2:=Hi (HBW.out.trans (hS.mono HBW.out.size))
   clear hS
   go_wp2
   go_roundw
   case rel=>exact ⟨k+1,by omega,by go_num,HB2.out⟩
   case measure=>simp [intOf]; omega
  ·obtain rfl:k=la.length:=by omega
   have hd0:decide ((la.length:Int)<(la.length:Int))=false:=decide_eq_false (by omega)
   go_wp2
   go_ret
   exact ⟨rfl,HBW.out⟩
open Go.RowKit
theorem reT:AgT 99 14:=⟨⟨_,Tryz.underlying99⟩,by kernel_rfl⟩
theorem einfo_re:(Tryz.prog.info? 99).map (fun i=>(i.zero,i.size,i.bytes))=some (some (.agg (eeA ⟨(0,0),Opp.zero,none,0⟩)),14,144):=by kernel_rfl
theorem run_build_re (w:World) (e:Ee):(Instr.buildSlice 96 1 #[(0,.agg (eeA e))]).run Tryz.prog w=.ok (.slice (some ⟨w.heap.size,0,none⟩) 1 1) (w.alloc (.cells (eeA e) 99)):=by kernel_rfl
theorem wp_build_re {w:World} {o:Oper} {a:Act} {K:Act→World→Prop} {Q:Exit→Act→World→Prop} (x:Operand) (ho:o.op=.buildSlice 96 1 #[(0,x)]) (e:Ee) (hx:a.eval x=.agg (eeA e))
  (h:K (a.put o.dst (.slice (some ⟨w.heap.size,0,none⟩) 1 1)) (w.alloc (.cells (eeA e) 99))):Oper.wp Tryz.prog o a w K Q:=by
 unfold Oper.wp execOp
 simp only [ho,Sem.run_bind,Sem.run_pure,Result.andThen_ok,List.map_toArray,List.map_cons,List.map_nil,hx,run_build_re]
 exact h
theorem run_make_re (w:World) (a b:Int) (y:Opp) (q:Option Addr) (c:Nat):(Instr.build 99 #[(0,.agg #[.int .i64 a,.int .i64 b]),(1,.agg (opA y q c))]).run Tryz.prog w=.ok (.agg (eeA ⟨(a,b),y,q,c⟩)) w:=by kernel_rfl
theorem exec_build_re {c:Act} {w:World} {o:Oper} {u v:Operand} (ho:o.op=.build 99 #[(0,u),(1,v)]) {a b:Int} {y:Opp} {q:Option Addr} {k:Nat} (hu:c.eval u=.agg #[.int .i64 a,.int .i64 b]) (hv:c.eval v=.agg (opA y q k)) :
  (execOp c.eval o).run Tryz.prog w=.ok (.value (.agg (eeA ⟨(a,b),y,q,k⟩))) w:=by
 unfold execOp
 simp only [ho,Sem.run_bind,Sem.run_pure,Result.andThen_ok,List.map_toArray,List.map_cons,List.map_nil,hu,hv,run_make_re]
theorem exec_load_st9 {w:World} {c:Act} {o:Oper} {x:Operand} (ho:o.op=.load 50 x) {b s i:Nat} (hx:c.eval x=.pointer (some ⟨b,s+i * 14,none⟩)) (l:List Ee) (hrd:Rd w (some ⟨b,s,none⟩) (eeCells l)) (hi:i<l.length) :
  (execOp c.eval o).run Tryz.prog w=.ok (.value (.agg #[.int .i64 (eeOf l i).s.1,.int .i64 (eeOf l i).s.2])) w:=by
 obtain ⟨d,hu⟩:=stT.und
 have h1:w.rangeAt b (s+i * 14) [.int .i64 (eeOf l i).s.1,.int .i64 (eeOf l i).s.2]:=fun j v hv=>by
  refine hrd.ee i hi j v ?_
  have hj:j<2:=by have:=(List.getElem?_eq_some_iff.1 hv).1; simpa using this
  unfold eeL
  rw [List.getElem?_append_left (by simpa using hj)]
  exact hv
 have hr:=run_loadAt_mid (P:=Tryz.prog) w b (s+i * 14) 50 [.int .i64 (eeOf l i).s.1,.int .i64 (eeOf l i).s.2] _ h1 hu rfl stT.size
 unfold execOp
 simp only [ho,hx,Sem.run_bind,hr,Result.andThen_ok,Sem.run_pure]
theorem exec_load_sbox {w:World} {c:Act} {o:Oper} {x:Operand} (ho:o.op=.load 50 x) {b:Nat} (hx:c.eval x=.pointer (some ⟨b,0,none⟩)) {e:Ee} (hb:AgAt w b (eeA e)) :
  (execOp c.eval o).run Tryz.prog w=.ok (.value (.agg #[.int .i64 e.s.1,.int .i64 e.s.2])) w:=by
 obtain ⟨d,hu⟩:=stT.und
 have h1:w.rangeAt b 0 [.int .i64 e.s.1,.int .i64 e.s.2]:=fun j v hv=>by
  rw [Nat.zero_add,AgAt.cell hb j]
  have hj:j<2:=by have:=(List.getElem?_eq_some_iff.1 hv).1; simpa using this
  unfold eeA eeL
  rw [List.getElem?_toArray,List.getElem?_append_left (by simpa using hj)]
  exact hv
 have hr:=run_loadAt_mid (P:=Tryz.prog) w b 0 50 [.int .i64 e.s.1,.int .i64 e.s.2] _ h1 hu rfl stT.size
 unfold execOp
 simp only [ho,hx,Sem.run_bind,hr,Result.andThen_ok,Sem.run_pure]
theorem exec_load_eop {w:World} {t:TypeId} (V:AgT t 12) {c:Act} {o:Oper} {x:Operand} (ho:o.op=.load t x) {b s i:Nat} (hx:c.eval x=.pointer (some ⟨b,s+i * 14+2,none⟩)) (l:List Ee) (hrd:Rd w (some ⟨b,s,none⟩) (eeCells l)) (hi:i<l.length) :
  (execOp c.eval o).run Tryz.prog w=.ok (.value (.agg (opA (eeOf l i).y (eeOf l i).q (eeOf l i).c))) w:=by
 obtain ⟨d,hu⟩:=V.und
 have h1:w.rangeAt b (s+i * 14+2) (opL (eeOf l i).y (eeOf l i).q (eeOf l i).c):=fun j v hv=>by
  rw [Nat.add_assoc]
  refine hrd.ee i hi (2+j) v ?_
  unfold eeL
  rw [List.getElem?_append_right (by simp)]
  simpa using hv
 have hr:=run_loadAt_mid (P:=Tryz.prog) w b (s+i * 14+2) t (opL (eeOf l i).y (eeOf l i).q (eeOf l i).c) _ h1 hu rfl V.size
 unfold execOp
 simp only [ho,hx,Sem.run_bind,hr,Result.andThen_ok,Sem.run_pure]
 rfl
def dre (p:Option Addr) (c i:Nat):Option Addr:=if c=i then p else p.map (·.add (i * 14))
theorem run_take_re (W:World) (p:Option Addr) (n c i:Nat) (hi:i≤c):(Instr.sliceAt 96 (.slice p n c) none (some (.int .i64 (i:Int))) none).run Tryz.prog W=.ok (.slice p i c) W:=by
 have hu:Tryz.prog.underlying 96=some (.slice (Tryz.prog.elem 96)):=by kernel_rfl
 have hs:(sizeOf (Tryz.prog.elem 96)).run Tryz.prog W=.ok 14 W:=by kernel_rfl
 rw [run_sliceAt_slice (h:=hu),run_slice_h (ht:=hu) (h0:=by omega) (h2:=by omega),hs]
 cases p <;> simp [Result.andThen_ok,sliced,Addr.add]
theorem run_drop_re (W:World) (p:Option Addr) (n c i:Nat) (hi:i≤n):(Instr.sliceAt 96 (.slice p n c) (some (.int .i64 (i:Int))) none none).run Tryz.prog W=.ok (.slice (dre p c i) (n - i) (c - i)) W:=by
 have hu:Tryz.prog.underlying 96=some (.slice (Tryz.prog.elem 96)):=by kernel_rfl
 have hs:(sizeOf (Tryz.prog.elem 96)).run Tryz.prog W=.ok 14 W:=by kernel_rfl
 rw [run_sliceAt_slice (h:=hu),run_slice_l (ht:=hu) (h0:=by omega) (h1:=by omega),hs]
 simp only [Result.andThen_ok,sliced,dre,Int.toNat_natCast]
theorem exec_take_re {a:Act} {w:World} {o:Oper} {x y:Operand} (ho:o.op=.slice 96 x none (some y) none) {p:Option Addr} {n c i:Nat} (hx:a.eval x=.slice p n c) (hy:a.eval y=.int .i64 (i:Int)) (hi:i≤c) :
  (execOp a.eval o).run Tryz.prog w=.ok (.value (.slice p i c)) w:=by
 unfold execOp
 simp only [ho,hx,hy,Option.map_some,Option.map_none,Sem.run_bind,run_take_re w p n c i hi,Result.andThen_ok,Sem.run_pure]
theorem exec_drop_re {a:Act} {w:World} {o:Oper} {x y:Operand} (ho:o.op=.slice 96 x (some y) none none) {p:Option Addr} {n c i:Nat} (hx:a.eval x=.slice p n c) (hy:a.eval y=.int .i64 (i:Int)) (hi:i≤n) :
  (execOp a.eval o).run Tryz.prog w=.ok (.value (.slice (dre p c i) (n - i) (c - i))) w:=by
 unfold execOp
 simp only [ho,hx,hy,Option.map_some,Option.map_none,Sem.run_bind,run_drop_re w p n c i hi,Result.andThen_ok,Sem.run_pure]
theorem rd_take_re {w:World} {p:Option Addr} {l:List Ee} (h:Rd w p (eeCells l)) (i:Nat):Rd w p (eeCells (l.take i)):=by
 intro h0
 have hl:0<(eeCells l).length:=by rw [eeCells_length,List.length_take] at h0; rw [eeCells_length]; omega
 obtain ⟨b',o,e,hc⟩:=h hl
 refine ⟨b',o,e,fun j u hu=>hc j u ?_⟩
 have hj:=(List.getElem?_eq_some_iff.1 hu).1
 have e2:eeCells l=eeCells (l.take i) ++ eeCells (l.drop i):=by rw [← eeCells_append,List.take_append_drop]
 rw [e2,List.getElem?_append_left hj]
 exact hu
theorem rd_drop_re {w:World} {p:Option Addr} {c:Nat} {l:List Ee} (h:Rd w p (eeCells l)) (i:Nat) (hc:l.length≤c):Rd w (dre p c i) (eeCells (l.drop i)):=by
 intro h0
 have hil:i<l.length:=by rw [eeCells_length,List.length_drop] at h0; omega
 have hl:0<(eeCells l).length:=by rw [eeCells_length]; omega
 obtain ⟨b',o,e,hcc⟩:=h hl
 subst e
 refine ⟨b',o+i * 14,by unfold dre; rw [if_neg (by omega)]; simp [Addr.add],fun j u hu=>?_⟩
 have h1:=hcc (i * 14+j) u (by rw [← eeCells_drop,List.getElem?_drop] at hu; exact hu)
 rw [← Nat.add_assoc] at h1
 exact h1
theorem dre_none {p:Option Addr} {c i:Nat} (h:p=none→c=0) (hd:dre p c i=none):c - i=0:=by
 unfold dre at hd
 split at hd
 ·omega
 ·have:p=none:=by cases p with
   | none=>rfl
   | some a=>cases hd
  have:=h this
  omega
theorem eeCells_one:∀ {l:List Ee},∀ u ∈ eeCells l,u.oneCell'=true:=by
 intro l u hu
 obtain ⟨x,_,hx⟩:=List.mem_flatMap.1 hu
 exact eeL_one x u hx
end Go.Proofs.YtfgnmnkihbgjnaaGreat

/-
  THE LAW'S HELPER same: a log and the document's, of the same rows, tell the same.
  No conditions but sizes.
-/
import Derived.Test.YtfgnmnkihbgjnaaGreatSh
import Derived.Test.YtfgnmnkihbgjnaaGreatHH
import Derived.Test.YtfgnmnkihbgjnaaGreatRgEnts
import Derived.Test.YtfgnmnkihbgjnaaGreatGS
set_option maxRecDepth 100000
set_option maxHeartbeats 32000000
namespace Go.Proofs.YtfgnmnkihbgjnaaGreat
open Go.RowKit
theorem RowsOk.congr {L L':Lg} (h:RowsOk L) (hr:∀ r,r<16→L.row r=L'.row r):RowsOk L':=⟨fun r h1=>by rw [← hr r h1]; exact h.ris r h1,fun r h1 e he=>h.own r h1 e (by rw [hr r h1]; exact he)⟩
theorem ents_same {L L':Lg} {la lb:List Ee} (h1:(la.map Ee.en).Perm (entA L)) (h2:RowsOk L→(la.map Ee.en).Pairwise fun a b=>Qm.ltS a.1 b.1) (h3:EnD L' (entA L') lb) (he:entA L'=entA L) (hr:RowsOk L) (hr':RowsOk L'):la.map Ee.en=lb.map Ee.en:=by
 refine sorted_uniq (fun e:Ent=>e.1) _ _ (h1.trans (by rw [← he]; exact h3.perm.symm)) (h2 hr) ?_
 exact List.pairwise_map.2 (h3.ris hr')
theorem eeOf_en {la lb:List Ee} (h:la.map Ee.en=lb.map Ee.en) (k:Nat):(eeOf la k).s=(eeOf lb k).s∧(eeOf la k).y=(eeOf lb k).y:=by
 have h1:∀ l:List Ee,(eeOf l k).en=(l.map Ee.en).getD k ((0,0),Opp.zero):=fun l=>by
  unfold eeOf
  rw [List.getD_eq_getElem?_getD,List.getD_eq_getElem?_getD,List.getElem?_map]
  cases l[k]? <;> rfl
 have h2:(eeOf la k).en=(eeOf lb k).en:=by rw [h1,h1,h]
 exact ⟨congrArg Prod.fst h2,congrArg Prod.snd h2⟩
theorem entA_path {L:Lg} (h:LgOk L) (e:Ent) (he:e ∈ entA L):e.2.path.length≤5000:=by
 obtain ⟨r,hr,he⟩:=List.mem_flatMap.1 he
 obtain ⟨x,hx,he⟩:=List.mem_flatMap.1 he
 obtain ⟨i,hi,rfl⟩:=List.mem_map.1 he
 exact (h.right r (List.mem_range.1 hr) x hx).cp.2 _ (opOf_mem (List.mem_range.1 hi))
theorem sum_congr {L L':Lg} (h:∀ r,r<16→L.row r=L'.row r):∀ k,k≤16→sumTo (vecL9 L') k=sumTo (vecL9 L) k
 | 0,_=>rfl
 | k+1,hk=>by
  simp only [sumTo]
  rw [sum_congr h k (by omega)]
  unfold vecL9
  rw [h k (by omega)]
theorem preS_congr {L L':Lg} (a:Nat→Int) (h:∀ r,r<16→L.row r=L'.row r):preS L' a 16=preS L a 16:=by
 unfold preS
 rw [List.flatMap_def,List.flatMap_def,List.map_congr_left (f:=fun r=>(L'.row r).drop (a r).toNat) (g:=fun r=>(L.row r).drop (a r).toNat) fun k hk=>by rw [h k (List.mem_range.1 hk)]]
theorem since_sz {L:Lg} (h:LgOk L) (a:Nat→Int) (n:Int):(∀ x,x ∈ sinceL L a n→Szs x.ops∧CpSz x)∧(sinceL L a n).length≤512:=by
 have hm:∀ x,x ∈ preS L a 16→Szs x.ops∧CpSz x:=fun x hx=>by
  obtain ⟨r,hr,hx⟩:=List.mem_flatMap.1 hx
  have:=h.right r (List.mem_range.1 hr) x (List.mem_of_mem_drop hx)
  exact ⟨this.szs,this.cp⟩
 have hl:∀ k,k≤16→((preS L a k).length:Int)≤sumTo (vecL9 L) k:=by
  intro k
  induction k with
  | zero=>intro _; simp [preS,sumTo]
  | succ k ih =>
   intro hk
   have:=ih (by omega)
   rw [preS_succ,List.length_append]
   simp only [sumTo]
   have h2:vecL9 L k=((L.row k).length:Int):=rfl
   rw [h2]
   have h1:((L.row k).drop (a k).toNat).length≤(L.row k).length:=by rw [List.length_drop]; omega
   omega
 have h16:=hl 16 (Nat.le_refl _)
 have ht:=h.tot
 unfold sinceL
 split
 ·refine ⟨fun x hx=>hm x (List.mem_of_mem_take hx),?_⟩
  rw [List.length_take]
  omega
 ·exact ⟨fun x hx=>(by cases hx),by simp⟩
theorem rgsame_any {l S M:Nat} {m:Sm} {F:Nat→Prop} {R:Nat} {d:Rm} {G:Nat→Prop} (a:Nat→Int) (n:Int) (w:World) (h:Lo w l S M m F) (h':Rg w R d G) (hrow:∀ r,r<16→m.lg.row r=d.lg.row r) (hwt:m.lg.wait.length=d.we.length) (ho:LgOk d.lg) (hsq:SeqOk m.lg) (hn:(entA m.lg).length≤1500) :
  Calls Tryz.prog 15 #[.pointer (some ⟨l,0,none⟩),.pointer (some ⟨R,0,none⟩),.agg (vecA a),.int .i64 n] w fun e w'=>e=.returned (.bool true)∧Below w.heap.size w w':=by
 obtain ⟨ev,ed,et,ee⟩:=same_tell hrow
 have hb:=(Below.refl w.heap.size w).alloc (Nat.le_refl _) (.cells (vecA a) 24)
 have HB:=Hi hb
 have hv:=VAt.new w a 24
 have hl:=h.kept hb
 have hr:=h'.kept hb
 have hsz:=since_sz h.ok a n
 have htot:totL d.lg=totL m.lg:=by rw [ho.totL,h.ok.totL,sum_congr hrow 16 (Nat.le_refl _)]
 have HSE:=Hi (show sinceL m.lg a n=sinceL d.lg a n from by unfold sinceL; rw [preS_congr a hrow])
 have HSZ:=Hi hsz.1
 have HSL:=Hi hsz.2
 have HEN:=Hi ee
 have HRO:=Hi (hsq.rows h.ok)
 have HRO2:=Hi ((hsq.rows h.ok).congr hrow)
 have HNE:=Hi hn
 have HPT:=Hi (entA_path h.ok)
 have HWQ:=Hi hwt.symm
 generalize hw1:w.alloc (.cells (vecA a) 24)=w1 at *
 have HV:=Hi (fun W (hW:Below w1.heap.size w1 W)=>hv.kept hW)
 have HRG:=Hi (fun W (hW:Below w1.heap.size w1 W)=>hr.kept hW)
 have HVA:=Hi (fun W (hW:Below w1.heap.size w1 W)=>lvector_any W (hl.kept hW))
 have HVB:=Hi (fun W (hW:Below w1.heap.size w1 W)=>by
  have:=rgvector_any W (hr.kept hW) ho
  rw [ev] at this
  exact this)
 have HTA:=Hi (fun W (hW:Below w1.heap.size w1 W)=>ltotal_any W (hl.kept hW))
 have HTB:=Hi (fun W (hW:Below w1.heap.size w1 W)=>(rgtotal_any W (hr.kept hW) ho).mono fun e w' hh=>(show e=.returned (.int .i64 (totL m.lg))∧Below W.heap.size W w' from ⟨by rw [← htot]; exact hh.1,hh.2 ▸ Below.refl _ _⟩))
 have HWA:=Hi (fun W (hW:Below w1.heap.size w1 W)=>(lwaiting_any W (hl.kept hW)).mono fun e w' hh=>(show e=.returned (.int .i64 (m.lg.wait.length:Int))∧Below W.heap.size W w' from ⟨hh.1,hh.2 ▸ Below.refl _ _⟩))
 have HIA:=Hi (fun W (hW:Below w1.heap.size w1 W)=>ltime_any W (hl.kept hW))
 have HIB:=Hi (fun W (hW:Below w1.heap.size w1 W)=>by
  have:=rgtime_any W (hr.kept hW) ho
  rw [← tmS_fst,et] at this
  exact this)
 have HDA:=Hi (fun W (hW:Below w1.heap.size w1 W)=>ldigest_any W (hl.kept hW))
 have HDB:=Hi (fun W (hW:Below w1.heap.size w1 W)=>by
  have:=rgdigest_any W (hr.kept hW) ho
  rw [ed] at this
  exact this)
 have HSI:=Hi (fun W (hW:Below w1.heap.size w1 W)=>lsince_any a n W (hl.kept hW))
 have HRS:=Hi (fun W (hW:Below w1.heap.size w1 W)=>rgsince_any a n W (hr.kept hW) ho)
 have HEA:=Hi (fun W (hW:Below w1.heap.size w1 W)=>lentries_any W (hl.kept hW) hn)
 have HEB:=Hi (fun W (hW:Below w1.heap.size w1 W)=>rgents_any W (hr.kept hW) ho (by rw [ee]; exact hn))
 clear h h' hrow hwt ho hsq hn hb hv hl hr hsz htot ev ed et ee
 go_enter Tryz.func15,Tryz.ntmps15
 go_upto_region 1 with fail
 try rw [hw1]
 clear hw1
 refine wp_region_held_drew (S:=fun W=>Below w1.heap.size w1 W) (by kernel_rfl) (Below.refl _ _).drew (fun hS=>?_)
 generalize w1.drew=wd at *
 refine tX 0 rfl hS ?_
 refine tX 2 rfl hS ?_
 go_simp
 refine rD 1 rfl (fun K hK=>?_)
 go_simp
 go_wp2_with ((go_at_call 21; refine (HVA.out _ hS).mono ?_; rintro ec wc ⟨rfl,hbc⟩))
 refine hK.out _ _ (hS.trans (hbc.mono hS.size)) (fun hS=>?_)
 clear hK K hbc
 generalize wc=wcc at *
 refine rD 3 rfl (fun K hK=>?_)
 go_simp
 go_wp2_with ((go_at_call 44; refine (HVB.out _ hS).mono ?_; rintro ec wc ⟨rfl,hbc⟩))
 refine hK.out _ _ (hS.trans (hbc.mono hS.size)) (fun hS=>?_)
 clear hK K hbc
 generalize wc=wcc at *
 refine tK 4 (v:=?_) rfl ?_ hS ?_
 rotate_left
 ·intro W hSW
  have hEq:=vtP.eq W (vecL9 m.lg) (vecL9 m.lg)
  rw [eqv_refl] at hEq
  go_simp
  all_goals with_reducible rfl
 refine tX 5 rfl hS ?_
 refine tX 6 rfl hS ?_
 refine tX 8 rfl hS ?_
 go_simp
 refine rD 7 rfl (fun K hK=>?_)
 go_simp
 go_wp2_with ((go_at_call 14; refine (HTA.out _ hS).mono ?_; rintro ec wc ⟨rfl,hbc⟩))
 refine hK.out _ _ (hS.trans (hbc.mono hS.size)) (fun hS=>?_)
 clear hK K hbc
 generalize wc=wcc at *
 refine rD 9 rfl (fun K hK=>?_)
 go_simp
 go_wp2_with ((go_at_call 41; refine (HTB.out _ hS).mono ?_; rintro ec wc ⟨rfl,hbc⟩))
 refine hK.out _ _ (hS.trans (hbc.mono hS.size)) (fun hS=>?_)
 clear hK K hbc
 generalize wc=wcc at *
 refine tX 10 rfl hS ?_
 refine tX 11 rfl hS ?_
 refine tX 12 rfl hS ?_
 refine tX 13 rfl hS ?_
 go_simp
 refine tX 15 rfl hS ?_
 refine tX 16 rfl hS ?_
 refine tX 17 rfl hS ?_
 refine tK 18 (v:=?_) rfl ?_ hS ?_
 rotate_left
 ·intro W hSW
  have yc:=(HRG.out W hSW).wcell
  rw [HWQ.out] at yc
  go_simp
  all_goals with_reducible rfl
 go_simp
 refine tX 19 rfl hS ?_
 go_simp
 refine rD 14 rfl (fun K hK=>?_)
 go_simp
 go_wp2_with ((go_at_call 23; refine (HWA.out _ hS).mono ?_; rintro ec wc ⟨rfl,hbc⟩))
 refine hK.out _ _ (hS.trans (hbc.mono hS.size)) (fun hS=>?_)
 clear hK K hbc
 generalize wc=wcc at *
 refine tX 20 rfl hS ?_
 refine tX 21 rfl hS ?_
 refine tX 22 rfl hS ?_
 refine tX 23 rfl hS ?_
 go_simp
 refine tX 25 rfl hS ?_
 go_simp
 refine rD 24 rfl (fun K hK=>?_)
 go_simp
 go_wp2_with ((go_at_call 24; refine (HIA.out _ hS).mono ?_; rintro ec wc ⟨rfl,hbc⟩))
 refine hK.out _ _ (hS.trans (hbc.mono hS.size)) (fun hS=>?_)
 clear hK K hbc
 generalize wc=wcc at *
 refine rD 26 rfl (fun K hK=>?_)
 go_simp
 go_wp2_with ((go_at_call 45; refine (HIB.out _ hS).mono ?_; rintro ec wc ⟨rfl,hbc⟩))
 refine hK.out _ _ (hS.trans (hbc.mono hS.size)) (fun hS=>?_)
 clear hK K hbc
 generalize wc=wcc at *
 refine tX 27 rfl hS ?_
 refine tX 28 rfl hS ?_
 refine tX 29 rfl hS ?_
 refine tX 30 rfl hS ?_
 go_simp
 refine tX 32 rfl hS ?_
 go_simp
 refine rD 31 rfl (fun K hK=>?_)
 go_simp
 go_wp2_with ((go_at_call 22; refine (HDA.out _ hS).mono ?_; rintro ec wc ⟨rfl,hbc⟩))
 refine hK.out _ _ (hS.trans (hbc.mono hS.size)) (fun hS=>?_)
 clear hK K hbc
 generalize wc=wcc at *
 refine rD 33 rfl (fun K hK=>?_)
 go_simp
 go_wp2_with ((go_at_call 46; refine (HDB.out _ hS).mono ?_; rintro ec wc ⟨rfl,hbc⟩))
 refine hK.out _ _ (hS.trans (hbc.mono hS.size)) (fun hS=>?_)
 clear hK K hbc
 generalize wc=wcc at *
 refine tX 34 rfl hS ?_
 refine tX 35 rfl hS ?_
 refine tX 36 rfl hS ?_
 refine tX 37 rfl hS ?_
 go_simp
 refine tK 38 (v:=.agg (vecA a)) rfl (fun W hSW=>exec_load_vec vtR rfl rfl (HV.out W hSW)) hS ?_
 refine tX 39 rfl hS ?_
 refine tX 41 rfl hS ?_
 go_simp
 refine tK 42 (v:=.agg (vecA a)) rfl (fun W hSW=>exec_load_vec vtR rfl rfl (HV.out W hSW)) hS ?_
 refine tX 43 rfl hS ?_
 go_simp
 refine rD 40 rfl (fun K hK=>?_)
 go_simp
 go_wp2_with ((go_at_call 47; refine (HSI.out _ hS).mono ?_; rintro ec w40 ⟨pa,ca,la,rfl,hma,hra,hb40⟩))
 have HMA:=Hi hma
 have HRA:=Hi hra
 refine hK.out _ _ (hS.trans (hb40.mono hS.size)) (fun hS=>?_)
 clear hK K hma hra hb40
 refine rD 44 rfl (fun K hK=>?_)
 go_simp
 go_wp2_with ((go_at_call 48; refine (HRS.out _ hS).mono ?_; rintro ec w44 ⟨pb,cb,lb,rfl,hmb,hrb,hob,hb44⟩))
 have HMB:=Hi hmb
 have HRB:=Hi hrb
 have HOB:=Hi hob
 replace HRA:=Hi (HRA.out.kept hb44)
 refine hK.out _ _ (hS.trans (hb44.mono hS.size)) (fun hS=>?_)
 clear hK K hmb hrb hob hb44
 refine rD 45 rfl (fun K hK=>?_)
 have HAL:=Hi (alike_any pa pb ca cb la lb w44 HRA.out.rd.1 (fun e he=>(HRA.out.ops e he).bops) HRB.out (fun e he=>(HOB.out e he).bops) (by rw [HMA.out,HMB.out,HSE.out]) (fun e he=>HSZ.out e.x (by rw [← HMA.out]; exact List.mem_map.2 ⟨e,he,rfl⟩)) (by have h1:=congrArg List.length HMA.out; rw [List.length_map] at h1; have:=HSL.out; omega))
 go_simp
 go_wp2_with ((go_at_call 12; refine HAL.out.mono ?_; rintro ec w45 ⟨rfl,hb45⟩))
 refine hK.out _ _ (hS.trans (hb45.mono hS.size)) (fun hS=>?_)
 clear hK K hb45
 refine tX 46 rfl hS ?_
 refine tX 47 rfl hS ?_
 go_simp
 refine wpAnyH_done (by kernel_rfl) ?_ _
 go_simp
 have HB1:=Hi (HB.out.trans (hS.mono HB.out.size))
 have HS1:=Hi hS
 clear hS HVA HVB HTA HTB HWA HIA HIB HDA HDB HSI HRS HRA HRB HOB HAL HV
 go_wp2_with fail
 refine (HEA.out _ HS1.out).mono ?_
 rintro e2 w2 ⟨pa,ca,la,rfl,hpa,hsa,hea,-,hb2⟩
 have HB2:=Hi (HB1.out.trans (hb2.mono HB1.out.size))
 have HS2:=Hi (HS1.out.trans (hb2.mono HS1.out.size))
 have HE2:=Hi hea
 clear hb2 hea
 go_wp2_with fail
 refine (HEB.out _ HS2.out).mono ?_
 rintro e3 w3 ⟨pb,cb,lb,rfl,heb,hrb,hpb,hb3⟩
 have HB3:=Hi (HB2.out.trans (hb3.mono HB2.out.size))
 have HEQ:=Hi (ents_same hpa hsa heb HEN.out HRO.out HRO2.out)
 have HRA:=Hi (fun W (hW:Below w3.heap.size w3 W)=>(HE2.out.kept (hb3.trans (hW.mono hb3.size))).rd)
 have HPA:=Hi (fun x hx W (hW:Below w3.heap.size w3 W)=>(((HE2.out.kept (hb3.trans (hW.mono hb3.size))).pa x hx).1))
 have HRB:=Hi (fun W (hW:Below w3.heap.size w3 W)=>hrb.below hW)
 have HPB:=Hi (fun x hx W (hW:Below w3.heap.size w3 W)=>(hpb x hx).kept hW)
 have HLN:=Hi (show la.length=lb.length from by have:=congrArg List.length HEQ.out; simpa using this)
 have HLL:=Hi (show la.length≤1500 from by have h1:=hpa.length_eq; have h2:=HNE.out; rw [List.length_map] at h1; omega)
 have HPL:=Hi (fun x (hx:x ∈ la)=>HPT.out x.en (hpa.mem_iff.1 (List.mem_map.2 ⟨x,hx,rfl⟩)))
 clear hpa hsa heb hrb hpb hb3 HE2
 have d0:((la.length:Int) != (lb.length:Int))=false:=by rw [HLN.out]; simp
 dsimp only at *
 go_wp2
 go_loopw [11] (fun i wr=>∃ k:Nat,k≤la.length∧i=.int .i64 (k:Int)∧Below w3.heap.size w3 wr) (fun i _=>la.length - (intOf i).toNat)
 case atStart=>exact ⟨0,Nat.zero_le _,rfl,Below.refl _ _⟩
 case round =>
  obtain ⟨k,hk,rfl,hbw⟩:=hrel
  have HBW:=Hi hbw
  have hll:=HLL.out
  clear hbw d0
  by_cases hlt:k<la.length
  ·have hd0:decide ((k:Int)<(la.length:Int))=true:=decide_eq_true (by omega)
   have HKA:=Hi hlt
   have HKBN:=Hi (show k<lb.length from by rw [← HLN.out]; exact hlt)
   obtain ⟨b,o,rfl,-⟩:=(HRA.out _ HBW.out).addr (by rw [eeCells_length]; have:=HKA.out; omega)
   obtain ⟨b',o',rfl,-⟩:=(HRB.out _ HBW.out).addr (by rw [eeCells_length]; have:=HKBN.out; omega)
   have HKK:=Hi (show (k:Int)<(la.length:Int) from by omega)
   have HKB:=Hi (show (k:Int)<(lb.length:Int) from by have:=HKBN.out; omega)
   have HEK:=Hi (eeOf_en HEQ.out k)
   obtain ⟨s1,HS1⟩:∃ s1,Hid ((eeOf la k).s.1=s1):=⟨_,Hi rfl⟩
   obtain ⟨s2,HS2⟩:∃ s2,Hid ((eeOf la k).s.2=s2):=⟨_,Hi rfl⟩
   have HT1:=Hi (show (eeOf lb k).s.1=s1 from by rw [← HEK.out.1]; exact HS1.out)
   have HT2:=Hi (show (eeOf lb k).s.2=s2 from by rw [← HEK.out.1]; exact HS2.out)
   have HRF:=Hi (fun W (hW:Below wr.heap.size wr W)=>refN_any (eeOf la k).y (eeOf la k).q (eeOf la k).c W (HPA.out _ (eeOf_mem hlt) W (HBW.out.trans (hW.mono HBW.out.size))) (by have:=HPL.out _ (eeOf_mem hlt); exact this))
   have HSM:=Hi (fun W (hW:Below wr.heap.size wr W) (p5:Option Addr) (c5:Nat) (h5:Pa W (eeOf la k).y p5 c5)=>by
    have:=rsame_any (eeOf la k).y (eeOf lb k).y p5 (eeOf lb k).q c5 (eeOf lb k).c W (by have h1:=HPL.out _ (eeOf_mem hlt); have h2:(eeOf la k).y.path.length≤5000:=h1; omega) h5 (HPB.out _ (eeOf_mem HKBN.out) W (HBW.out.trans (hW.mono HBW.out.size)))
    rw [show sameO (eeOf la k).y (eeOf lb k).y=true from by rw [HEK.out.2]; exact sameO_iff.2 rfl] at this
    exact this)
   go_upto_region 10 with fail
   refine wp_region_held_drew (S:=fun W=>Below wr.heap.size wr W) (by kernel_rfl) (Below.refl _ _).drew (fun hS=>?_)
   generalize wr.drew=wd at *
   refine tX 0 rfl hS ?_
   refine tX 1 rfl hS ?_
   refine tK 2 (v:=?_) rfl ?_ hS ?_
   rotate_left
   ·intro W hSW
    have hkk:=HKK.out
    go_simp
    all_goals with_reducible rfl
   refine tX 3 rfl hS ?_
   go_simp
   refine tK 4 (v:=.agg #[.int .i64 s1,.int .i64 s2]) rfl (fun W hSW=>by rw [← HS1.out,← HS2.out]; exact exec_load_st9 rfl rfl la (HRA.out W (HBW.out.trans (hSW.mono HBW.out.size))) HKA.out) hS ?_
   refine tX 5 rfl hS ?_
   refine tX 6 rfl hS ?_
   refine tK 7 (v:=?_) rfl ?_ hS ?_
   rotate_left
   ·intro W hSW
    have hkk:=HKB.out
    go_simp
    all_goals with_reducible rfl
   go_simp
   refine tX 8 rfl hS ?_
   go_simp
   refine tK 9 (v:=.agg #[.int .i64 s1,.int .i64 s2]) rfl (fun W hSW=>by rw [← HT1.out,← HT2.out]; exact exec_load_st9 rfl rfl lb (HRB.out W (HBW.out.trans (hSW.mono HBW.out.size))) HKBN.out) hS ?_
   refine tX 10 rfl hS ?_
   refine tX 11 rfl hS ?_
   refine tX 12 rfl hS ?_
   go_simp
   refine tX 13 rfl hS ?_
   refine tK 14 (v:=?_) rfl ?_ hS ?_
   rotate_left
   ·intro W hSW
    have hkk:=HKK.out
    go_simp
    all_goals with_reducible rfl
   refine tX 15 rfl hS ?_
   go_simp
   refine tK 16 (v:=.agg (opA (eeOf la k).y (eeOf la k).q (eeOf la k).c)) rfl (fun W hSW=>exec_load_eop agO rfl rfl la (HRA.out W (HBW.out.trans (hSW.mono HBW.out.size))) HKA.out) hS ?_
   refine tX 18 rfl hS ?_
   refine tX 19 rfl hS ?_
   refine tK 20 (v:=?_) rfl ?_ hS ?_
   rotate_left
   ·intro W hSW
    have hkk:=HKB.out
    go_simp
    all_goals with_reducible rfl
   go_simp
   refine tX 21 rfl hS ?_
   go_simp
   refine tK 22 (v:=.agg (opA (eeOf lb k).y (eeOf lb k).q (eeOf lb k).c)) rfl (fun W hSW=>exec_load_eop agR rfl rfl lb (HRB.out W (HBW.out.trans (hSW.mono HBW.out.size))) HKBN.out) hS ?_
   go_simp
   refine rD 17 rfl (fun K hK=>?_)
   go_simp
   go_wp2_with ((go_at_call 51; refine (HRF.out _ hS).mono ?_; rintro er w5 ⟨p5,c5,rfl,hp5,hb5,-⟩))
   have HP5:=Hi hp5
   refine hK.out _ _ (hS.trans (hb5.mono hS.size)) (fun hS=>?_)
   clear hK K hp5 hb5
   refine rD 23 rfl (fun K hK=>?_)
   go_simp
   go_wp2_with ((go_at_call 50; refine (HSM.out _ hS p5 c5 HP5.out).mono ?_; rintro er w6 ⟨rfl,hb6⟩))
   refine hK.out _ _ (hS.trans (hb6.mono hS.size)) (fun hS=>?_)
   clear hK K hb6
   refine tX 24 rfl hS ?_
   refine tX 25 rfl hS ?_
   go_simp
   refine wpAnyH_done (by kernel_rfl) ?_ _
   go_simp
   have HBX:=Hi (HBW.out.trans (hS.mono HBW.out.size))
   clear hS
   go_wp2
   go_roundw
   case rel=>exact ⟨k+1,by omega,by go_num,HBX.out⟩
   case measure=>simp [intOf]; omega
  ·obtain rfl:k=la.length:=by omega
   have hd0:decide ((la.length:Int)<(la.length:Int))=false:=decide_eq_false (by omega)
   have HBX:=Hi (HB3.out.trans (HBW.out.mono HB3.out.size))
   go_wp2
   go_ret
   exact ⟨rfl,HBX.out⟩
end Go.Proofs.YtfgnmnkihbgjnaaGreat

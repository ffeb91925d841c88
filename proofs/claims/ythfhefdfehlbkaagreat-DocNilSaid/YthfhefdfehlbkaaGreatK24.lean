/-
  A GRAPH's Insert: at every op.
  No conditions but sizes.
-/
import Derived.Test.YthfhefdfehlbkaaGreatSh
import Derived.Test.YthfhefdfehlbkaaGreatK23
import Derived.Test.YthfhefdfehlbkaaGreatK05
set_option maxRecDepth 100000
set_option maxHeartbeats 4000000
namespace Go.Proofs.YthfhefdfehlbkaaGreat
open Go.RowKit
open Tm (Sp Tr has put cut kids)
theorem opT:AgT 43 12:=⟨⟨_,Tryz.underlying43⟩,by kernel_rfl⟩
def Inserted (gg:Nat) (ops:List Pm.Wr) (χ:Nat→Nat) (y:Pm.Wr) (w:World) (e:Ending) (w':World):Prop :=
 ∃ χ',e=.returned (.tuple #[.int .i64 (Gm.insN ops y:Nat),.int .i64 (Gm.insE ops y)])∧Gra w' gg (Gm.insO ops y) χ'∧Goes w χ w' χ'
theorem inserted_bad {gg:Nat} {ops:List Pm.Wr} {χ:Nat→Nat} {y:Pm.Wr} {w w':World} {E:Int} (h:Gra w gg ops χ) (hb:Below w.heap.size w w') (hE:Gm.insE ops y=E) (h0:E≠0):Inserted gg ops χ y w (.returned (.tuple #[.int .i64 0,.int .i64 E])) w':=by
 subst hE
 exact ⟨χ,by rw [Gm.insN_bad h0]; rfl,by rw [Gm.insO_bad h0]; exact h.kept hb,Goes.of_below hb⟩
theorem ins0_any {gg:Nat} {ops:List Pm.Wr} {χ:Nat→Nat} (s:Qm.St) (x:Opp) (q:Option Addr) (c:Nat) (w:World) (h:Gra w gg ops χ) (hs:Sz x) (ha:Pa w x q c) (hn:okNode s.1 s.2=false) :
  Calls Tryz.prog 17 #[ptV gg,.agg #[.int .i64 s.1,.int .i64 s.2],.agg (opA x q c)] w (Inserted gg ops χ ⟨s,x⟩ w):=by
 obtain ⟨s1,s2⟩:=s
 have HL:=Hi h
 have HSZ:=Hi hs
 obtain ⟨X,hgx⟩:∃ X:Gx,AgAt w gg #[ptV X.b]∧Grf w X χ∧X.lk=0∧X.ops=ops:=h.box
 have HX:=Hi hgx
 have HS0:=Hi ((AgAt.new w #[.int .i64 s1,.int .i64 s2] 35).kept ((Below.refl _ _).alloc (Nat.le_refl _) (.cells (opA x q c) 43)))
 have HO:=Hi (show AgAt ((w.alloc (.cells #[.int .i64 s1,.int .i64 s2] 35)).alloc (.cells (opA x q c) 43)) (w.heap.size+1) (opA x q c) from by
  have:=AgAt.new (w.alloc (.cells #[.int .i64 s1,.int .i64 s2] 35)) (opA x q c) 43
  rwa [World.size_alloc] at this)
 have HB:=Hi (((Below.refl w.heap.size w).alloc (Nat.le_refl _) (.cells #[.int .i64 s1,.int .i64 s2] 35)).alloc (by simp) (.cells (opA x q c) 43))
 have HP:=Hi (ha.kept HB.out)
 have HN:=Hi hn
 have HDE:=Hi (show Gm.insE ops ⟨(s1,s2),x⟩=1 from by
  unfold Gm.insE Pm.okW
  rw [show okNode s1 s2=false from hn]
  rfl)
 clear h hs ha hn hgx
 go_enter Tryz.func17,Tryz.ntmps17
 go_wp2_with fail
 refine (gours_any _ (AgAt.kept HX.out.1 HB.out)).mono ?_
 rintro e w1 ⟨rfl,rfl⟩
 go_wp2_with (refine wpList_load_ag stT (by kernel_rfl) _ rfl _ rfl (A:=#[.int .i64 s1,.int .i64 s2]) rfl HS0.out ?_)
 refine (onode_any s1 s2 _).mono ?_
 rw [HN.out]
 rintro e w2 ⟨rfl,hb2⟩
 replace HP:=Hi (HP.out.kept hb2)
 replace HO:=Hi (HO.out.kept hb2)
 replace HS0:=Hi (HS0.out.kept hb2)
 replace HB:=Hi (HB.out.trans (hb2.mono HB.out.size))
 clear hb2
 have HE:=Hi (inserted_bad HL.out HB.out HDE.out (by decide))
 clear HL HO HS0 HB HP HX
 go_wp2
 go_ret2
 exact HE.out
theorem ins1_any {gg:Nat} {ops:List Pm.Wr} {χ:Nat→Nat} (s:Qm.St) (x:Opp) (q:Option Addr) (c:Nat) (w:World) (h:Gra w gg ops χ) (hs:Sz x) (ha:Pa w x q c) (hn:okNode s.1 s.2=true) (hr:rightO x=false) :
  Calls Tryz.prog 17 #[ptV gg,.agg #[.int .i64 s.1,.int .i64 s.2],.agg (opA x q c)] w (Inserted gg ops χ ⟨s,x⟩ w):=by
 obtain ⟨s1,s2⟩:=s
 have HL:=Hi h
 have HSZ:=Hi hs
 obtain ⟨X,hgx⟩:∃ X:Gx,AgAt w gg #[ptV X.b]∧Grf w X χ∧X.lk=0∧X.ops=ops:=h.box
 have HX:=Hi hgx
 have HS0:=Hi ((AgAt.new w #[.int .i64 s1,.int .i64 s2] 35).kept ((Below.refl _ _).alloc (Nat.le_refl _) (.cells (opA x q c) 43)))
 have HO:=Hi (show AgAt ((w.alloc (.cells #[.int .i64 s1,.int .i64 s2] 35)).alloc (.cells (opA x q c) 43)) (w.heap.size+1) (opA x q c) from by
  have:=AgAt.new (w.alloc (.cells #[.int .i64 s1,.int .i64 s2] 35)) (opA x q c) 43
  rwa [World.size_alloc] at this)
 have HB:=Hi (((Below.refl w.heap.size w).alloc (Nat.le_refl _) (.cells #[.int .i64 s1,.int .i64 s2] 35)).alloc (by simp) (.cells (opA x q c) 43))
 have HP:=Hi (ha.kept HB.out)
 have HN:=Hi hn
 have HRT:=Hi hr
 have HDE:=Hi (show Gm.insE ops ⟨(s1,s2),x⟩=1 from by
  unfold Gm.insE Pm.okW
  rw [show okNode s1 s2=true from hn,hr]
  rfl)
 clear h hs ha hn hr hgx
 go_enter Tryz.func17,Tryz.ntmps17
 go_wp2_with fail
 refine (gours_any _ (AgAt.kept HX.out.1 HB.out)).mono ?_
 rintro e w1 ⟨rfl,rfl⟩
 go_wp2_with (refine wpList_load_ag stT (by kernel_rfl) _ rfl _ rfl (A:=#[.int .i64 s1,.int .i64 s2]) rfl HS0.out ?_)
 refine (onode_any s1 s2 _).mono ?_
 rw [HN.out]
 rintro e w2 ⟨rfl,hb2⟩
 replace HP:=Hi (HP.out.kept hb2)
 replace HO:=Hi (HO.out.kept hb2)
 replace HS0:=Hi (HS0.out.kept hb2)
 replace HB:=Hi (HB.out.trans (hb2.mono HB.out.size))
 clear hb2
 go_wp2_with (refine wpList_load_opG otP (by kernel_rfl) _ rfl _ rfl x q c HO.out ?_)
 refine (oright_any x q c _ HSZ.out HP.out).mono ?_
 rw [HRT.out]
 rintro e w3 ⟨rfl,hb3⟩
 replace HP:=Hi (HP.out.kept hb3)
 replace HO:=Hi (HO.out.kept hb3)
 replace HS0:=Hi (HS0.out.kept hb3)
 replace HB:=Hi (HB.out.trans (hb3.mono HB.out.size))
 clear hb3
 have HE:=Hi (inserted_bad HL.out HB.out HDE.out (by decide))
 clear HL HO HS0 HB HP HX
 go_wp2
 go_ret2
 exact HE.out
theorem insK_any {gg:Nat} {ops:List Pm.Wr} {χ:Nat→Nat} (s:Qm.St) (x:Opp) (q:Option Addr) (c:Nat) (w:World) (h:Gra w gg ops χ) (hs:Sz x) (ha:Pa w x q c) (hn:okNode s.1 s.2=true) (hr:rightO x=true) (k1:x.k≠1) (k2:x.k≠2) (k5:x.k≠5) :
  Calls Tryz.prog 17 #[ptV gg,.agg #[.int .i64 s.1,.int .i64 s.2],.agg (opA x q c)] w (Inserted gg ops χ ⟨s,x⟩ w):=by
 obtain ⟨s1,s2⟩:=s
 have HL:=Hi h
 have HSZ:=Hi hs
 obtain ⟨X,hgx⟩:∃ X:Gx,AgAt w gg #[ptV X.b]∧Grf w X χ∧X.lk=0∧X.ops=ops:=h.box
 have HX:=Hi hgx
 have HS0:=Hi ((AgAt.new w #[.int .i64 s1,.int .i64 s2] 35).kept ((Below.refl _ _).alloc (Nat.le_refl _) (.cells (opA x q c) 43)))
 have HO:=Hi (show AgAt ((w.alloc (.cells #[.int .i64 s1,.int .i64 s2] 35)).alloc (.cells (opA x q c) 43)) (w.heap.size+1) (opA x q c) from by
  have:=AgAt.new (w.alloc (.cells #[.int .i64 s1,.int .i64 s2] 35)) (opA x q c) 43
  rwa [World.size_alloc] at this)
 have HB:=Hi (((Below.refl w.heap.size w).alloc (Nat.le_refl _) (.cells #[.int .i64 s1,.int .i64 s2] 35)).alloc (by simp) (.cells (opA x q c) 43))
 have HP:=Hi (ha.kept HB.out)
 have HN:=Hi hn
 have HRT:=Hi hr
 have e1:(x.k != 1)=true:=by simpa using k1
 have e2:(x.k != 2)=true:=by simpa using k2
 have e5:(x.k != 5)=true:=by simpa using k5
 have HDE:=Hi (show Gm.insE ops ⟨(s1,s2),x⟩=42 from by
  unfold Gm.insE Pm.okW
  rw [show okNode s1 s2=true from hn,hr,if_pos (show (true && true)=true from rfl),if_neg (by rintro (h | h | h) <;> contradiction)])
 clear h hs ha hn hr hgx
 go_enter Tryz.func17,Tryz.ntmps17
 go_wp2_with fail
 refine (gours_any _ (AgAt.kept HX.out.1 HB.out)).mono ?_
 rintro e w1 ⟨rfl,rfl⟩
 go_wp2_with (refine wpList_load_ag stT (by kernel_rfl) _ rfl _ rfl (A:=#[.int .i64 s1,.int .i64 s2]) rfl HS0.out ?_)
 refine (onode_any s1 s2 _).mono ?_
 rw [HN.out]
 rintro e w2 ⟨rfl,hb2⟩
 replace HP:=Hi (HP.out.kept hb2)
 replace HO:=Hi (HO.out.kept hb2)
 replace HS0:=Hi (HS0.out.kept hb2)
 replace HB:=Hi (HB.out.trans (hb2.mono HB.out.size))
 clear hb2
 go_wp2_with (refine wpList_load_opG otP (by kernel_rfl) _ rfl _ rfl x q c HO.out ?_)
 refine (oright_any x q c _ HSZ.out HP.out).mono ?_
 rw [HRT.out]
 rintro e w3 ⟨rfl,hb3⟩
 replace HP:=Hi (HP.out.kept hb3)
 replace HO:=Hi (HO.out.kept hb3)
 replace HS0:=Hi (HS0.out.kept hb3)
 replace HB:=Hi (HB.out.trans (hb3.mono HB.out.size))
 clear hb3
 have y0:w3.cell? ⟨w.heap.size+1,0,none⟩=some (.int .i64 x.k):=HO.out.cell 0
 have HE:=Hi (inserted_bad HL.out HB.out HDE.out (by decide))
 clear HL HO HS0 HB HP HX
 go_wp2
 go_ret2
 exact HE.out
theorem insOk1_any {gg:Nat} {ops:List Pm.Wr} {χ:Nat→Nat} (s:Qm.St) (x:Opp) (q:Option Addr) (c:Nat) (w:World) (h:Gra w gg ops χ) (hs:Sz x) (ha:Pa w x q c) (hn:okNode s.1 s.2=true) (hr:rightO x=true) (hk:x.k=1) (hl:ops.length<80) :
  Calls Tryz.prog 17 #[ptV gg,.agg #[.int .i64 s.1,.int .i64 s.2],.agg (opA x q c)] w (Inserted gg ops χ ⟨s,x⟩ w):=by
 obtain ⟨s1,s2⟩:=s
 have HL:=Hi h
 have HSZ:=Hi hs
 obtain ⟨X,hgx⟩:∃ X:Gx,AgAt w gg #[ptV X.b]∧Grf w X χ∧X.lk=0∧X.ops=ops:=h.box
 have HX:=Hi hgx
 have HS0:=Hi ((AgAt.new w #[.int .i64 s1,.int .i64 s2] 35).kept ((Below.refl _ _).alloc (Nat.le_refl _) (.cells (opA x q c) 43)))
 have HO:=Hi (show AgAt ((w.alloc (.cells #[.int .i64 s1,.int .i64 s2] 35)).alloc (.cells (opA x q c) 43)) (w.heap.size+1) (opA x q c) from by
  have:=AgAt.new (w.alloc (.cells #[.int .i64 s1,.int .i64 s2] 35)) (opA x q c) 43
  rwa [World.size_alloc] at this)
 have HB:=Hi (((Below.refl w.heap.size w).alloc (Nat.le_refl _) (.cells #[.int .i64 s1,.int .i64 s2] 35)).alloc (by simp) (.cells (opA x q c) 43))
 have HP:=Hi (ha.kept HB.out)
 have HN:=Hi hn
 have HRT:=Hi hr
 have HK:=Hi hk
 have HLO:=Hi hl
 have HOK:=Hi (show Gm.okX ⟨(s1,s2),x⟩=true from Gm.okX_iff.2 ⟨hn,hr,by show x.k=1∨x.k=2∨x.k=5; omega⟩)
 have HPN:=Hi (show x.path=[] from Gm.right_bare hr (by omega))
 clear h hs ha hn hr hk hl hgx
 go_enter Tryz.func17,Tryz.ntmps17
 go_wp2_with fail
 refine (gours_any _ (AgAt.kept HX.out.1 HB.out)).mono ?_
 rintro e w1 ⟨rfl,rfl⟩
 go_wp2_with (refine wpList_load_ag stT (by kernel_rfl) _ rfl _ rfl (A:=#[.int .i64 s1,.int .i64 s2]) rfl HS0.out ?_)
 refine (onode_any s1 s2 _).mono ?_
 rw [HN.out]
 rintro e w2 ⟨rfl,hb2⟩
 replace HP:=Hi (HP.out.kept hb2)
 replace HO:=Hi (HO.out.kept hb2)
 replace HS0:=Hi (HS0.out.kept hb2)
 replace HB:=Hi (HB.out.trans (hb2.mono HB.out.size))
 clear hb2
 go_wp2_with (refine wpList_load_opG otP (by kernel_rfl) _ rfl _ rfl x q c HO.out ?_)
 refine (oright_any x q c _ HSZ.out HP.out).mono ?_
 rw [HRT.out]
 rintro e w3 ⟨rfl,hb3⟩
 replace HP:=Hi (HP.out.kept hb3)
 replace HO:=Hi (HO.out.kept hb3)
 replace HS0:=Hi (HS0.out.kept hb3)
 replace HB:=Hi (HB.out.trans (hb3.mono HB.out.size))
 clear hb3
 have y0:w3.cell? ⟨w.heap.size+1,0,none⟩=some (.int .i64 1):=by
  have h1:w3.cell? ⟨w.heap.size+1,0,none⟩=some (.int .i64 x.k):=HO.out.cell 0
  rwa [HK.out] at h1
 have yg:w3.cell? ⟨gg,0,none⟩=some (ptV X.b):=(AgAt.cell (AgAt.kept HX.out.1 HB.out) 0).trans rfl
 have HC:=Hi (HX.out.2.1.kept HB.out)
 go_upto_region 7 with (first | (refine wpList_load_ag stT (by kernel_rfl) _ rfl _ rfl (A:=#[.int .i64 s1,.int .i64 s2]) rfl HS0.out ?_) | (go_at_call 85; refine (find_any (s1,s2) w3 HC.out.toCore).mono ?_; rintro e w4 ⟨n,b,rfl,hf4,hb4⟩; unfold intB))
 rw [HX.out.2.2.2] at hf4
 have HF:=Hi hf4
 replace HC:=Hi (HC.out.kept hb4)
 replace HO:=Hi (HO.out.kept hb4)
 replace HS0:=Hi (HS0.out.kept hb4)
 replace HB:=Hi (HB.out.trans (hb4.mono HB.out.size))
 clear hb4 hf4 yg y0
 cases b with
 | true =>
  have HDE:=Hi (show Gm.insE ops ⟨(s1,s2),x⟩=4 from by
   obtain ⟨y,hy,hys⟩:=HF.out.2.2 rfl
   obtain ⟨k1,k2,k3⟩:=Gm.okX_iff.1 HOK.out
   have k12:Pm.okW ⟨(s1,s2),x⟩=true:=by
    unfold Pm.okW
    rw [Bool.and_eq_true]
    exact ⟨k1,k2⟩
   unfold Gm.insE
   rw [if_pos k12,if_pos k3,if_pos (Gm.there_iff.2 ⟨y,List.mem_of_getElem? hy,hys⟩)])
  have HE:=Hi (inserted_bad HL.out HB.out HDE.out (by decide))
  clear HL HO HS0 HB HP HX HC HF
  go_wp2
  go_ret2
  exact HE.out
 | false =>
  have hsp:=HF.out.2.1 rfl
  have HSP0:=Hi hsp
  have hops:X.ops=ops:=HX.out.2.2.2
  have hlen:ops.length=X.ls.length:=by rw [← hops]; unfold Gx.ops; rw [List.length_map]
  have HIN:=Hi (Gm.ins_at HL.out.few.1 HOK.out hsp.2 hsp.1)
  obtain ⟨po,co,hpo,-⟩:=own_sliceG HC.out.ro
  have HPO0:=Hi hpo
  have y2:w4.cell? ⟨X.b,2,none⟩=some (.slice po X.ls.length co):=by rw [← hpo]; exact HC.out.cO
  have hl60:X.ls.length<80:=by have:=HLO.out; omega
  have d9:decide ((65536:Int)≤(X.ls.length:Int))=false:=decide_eq_false (by omega)
  have y6:∃ v,w4.cell? ⟨w.heap.size+1,6,none⟩=some v:=⟨_,(HO.out.cell 6).trans rfl⟩
  obtain ⟨v6,y6⟩:=y6
  have f6:w4.frozen? ⟨w.heap.size+1,6,none⟩=false:=HO.out.free 6
  clear hsp hops hpo
  go_upto_region 12 with fail
  clear y2 y6 f6
  have hnle:n≤X.ls.length:=by have:=HF.out.1; omega
  have HO12:=Hi (show AgAt (w4.setCell ⟨w.heap.size+1,6,none⟩ (.slice none 0 0)) (w.heap.size+1) (opA x none 0) from by
   have h1:=AgAt.put HO.out 6 (.slice none 0 0)
   rw [show (opA x q c).setIfInBounds 6 (.slice none 0 0)=opA x none 0 from by unfold opA opL; rw [HPN.out]; rfl] at h1
   exact h1)
  have hb12:Below w.heap.size w (w4.setCell ⟨w.heap.size+1,6,none⟩ (.slice none 0 0)):=HB.out.trans ((set_turns (w.heap.size+1) w4 6 (.slice none 0 0)).below (fun k _ hk=>by rw [show k=w.heap.size+1 from hk]; omega) HB.out.size)
  have HB12:=Hi hb12
  have HS12:=Hi (show AgAt (w4.setCell ⟨w.heap.size+1,6,none⟩ (.slice none 0 0)) w.heap.size #[.int .i64 s1,.int .i64 s2] from HS0.out.block ((set_turns (w.heap.size+1) w4 6 (.slice none 0 0)).block _ (AgAt.lt HS0.out) (by simp)))
  have HC12:=Hi (HX.out.2.1.kept hb12)
  clear hb12 HC HO HS0 HB
  generalize w4.setCell ⟨w.heap.size+1,6,none⟩ (.slice none 0 0)=w12 at *
  go_upto_region 13 with (go_at_call 86; refine (takeBack_any n w12 HC12.out (by omega)).mono ?_; rintro e w13 ⟨rfl,X1,χ1,hg,hl1,hu,hgo⟩)
  have HL1:=Hi hl1
  have HZ0:=Hi (show χ w.heap.size=0∧χ (w.heap.size+1)=0 from ⟨HX.out.2.1.toCore.zero (Nat.le_refl _),HX.out.2.1.toCore.zero (by omega)⟩)
  have HZB:=Hi (show χ1 w.heap.size=0∧χ1 (w.heap.size+1)=0 from ⟨(hgo.keep _ (AgAt.lt HS12.out)).trans HZ0.out.1,(hgo.keep _ (AgAt.lt HO12.out)).trans HZ0.out.2⟩)
  have hbd:=Below.drew (Below.refl w13.heap.size w13)
  have HG:=Hi (hg.kept hbd)
  have HO13:=Hi ((HO12.out.block (hgo.turns.block _ (AgAt.lt HO12.out) (by rw [HZ0.out.2]; decide))).kept hbd)
  have HS13:=Hi ((HS12.out.block (hgo.turns.block _ (AgAt.lt HS12.out) (by rw [HZ0.out.1]; decide))).kept hbd)
  have HGO:=Hi ((Goes.of_below HB12.out).trans (hgo.trans (Goes.of_below hbd)))
  have hll:X1.ls.length=X.ls.length:=by rw [hl1.ls]
  have HPO:=Hi (show X1.po=.slice po X1.ls.length co from by rw [hl1.po,hll]; exact HPO0.out)
  have HLN:=Hi (show ops.length=X1.ls.length from by omega)
  have HUL:=Hi (show X1.us.length≤n from by rw [hu,List.length_take]; exact Nat.min_le_left _ _)
  have HNL:=Hi (show n≤X1.ls.length from by omega)
  have HF60:=Hi (show X1.ls.length<80 from by omega)
  have HFEW:=Hi (show X1.ls.length≤80 from by omega)
  have HSP:=Hi (show Gm.Spot X1.ops (s1,s2) n from by rw [like_ops hl1,HX.out.2.2.2]; exact HSP0.out.1)
  clear hg hl1 hu hgo hbd hll HC12 HO12 HS12 HB12 HPO0 HSP0 HZ0 HF hlen hl60 d9 hnle
  have HSS:=Hi (show w13.drew.cell? ⟨X.b,2,none⟩=some (.slice po X1.ls.length co)∧AgAt w13.drew w.heap.size #[.int .i64 s1,.int .i64 s2]∧AgAt w13.drew (w.heap.size+1) (opA x none 0) from ⟨by rw [← HPO.out,← HL1.out.b]; exact HG.out.cO,HS13.out,HO13.out⟩)
  refine wp_region_last_drew 14 (S:=fun W=>W.cell? ⟨X.b,2,none⟩=some (.slice po X1.ls.length co)∧AgAt W w.heap.size #[.int .i64 s1,.int .i64 s2]∧AgAt W (w.heap.size+1) (opA x none 0)) (by kernel_rfl) HSS.out (fun hS=>?_)
  clear HSS
  generalize w13.drew=we at *
  refine wpAnyL_take (i:=0) (v:=?_) rfl (by kernel_rfl) (by kernel_rfl) (by kernel_rfl) (fun _ _ _ h=>h) (Or.inl ⟨by kernel_rfl,?_⟩) hS (by kernel_rfl) ?_
  rotate_left
  ·intro W hSW
   go_simp
   all_goals with_reducible rfl
  refine wpAnyL_take (i:=1) (v:=?_) rfl (by kernel_rfl) (by kernel_rfl) (by kernel_rfl) (fun _ _ _ h=>h) (Or.inl ⟨by kernel_rfl,?_⟩) hS (by kernel_rfl) ?_
  rotate_left
  ·intro W hSW
   go_simp
   all_goals with_reducible rfl
  refine wpAnyL_take (i:=2) (v:=?_) rfl (by kernel_rfl) (by kernel_rfl) (by kernel_rfl) (fun _ _ _ h=>h) (Or.inl ⟨by kernel_rfl,?_⟩) hS (by kernel_rfl) ?_
  rotate_left
  ·intro W hSW
   go_simp
   all_goals with_reducible rfl
  refine wpAnyL_take (i:=3) (v:=?_) rfl (by kernel_rfl) (by kernel_rfl) (by kernel_rfl) (fun _ _ _ h=>h) (Or.inl ⟨by kernel_rfl,?_⟩) hS (by kernel_rfl) ?_
  rotate_left
  ·intro W hSW
   go_simp
   all_goals with_reducible rfl
  go_simp
  refine wpAnyL_take (i:=4) (v:=?_) rfl (by kernel_rfl) (by kernel_rfl) (by kernel_rfl) (fun _ _ _ h=>h) (Or.inl ⟨by kernel_rfl,?_⟩) hS (by kernel_rfl) ?_
  rotate_left
  ·intro W hSW
   have y:=hSW.1
   go_simp
   all_goals with_reducible rfl
  refine wpAnyL_take (i:=5) (v:=?_) rfl (by kernel_rfl) (by kernel_rfl) (by kernel_rfl) (fun _ _ _ h=>h) (Or.inl ⟨by kernel_rfl,?_⟩) hS (by kernel_rfl) ?_
  rotate_left
  ·intro W hSW
   go_simp
   all_goals with_reducible rfl
  go_simp
  refine wpAnyL_take (i:=6) (v:=.agg #[.int .i64 s1,.int .i64 s2]) rfl (by kernel_rfl) (by kernel_rfl) (by kernel_rfl) (fun _ _ _ h=>h) (Or.inl ⟨by kernel_rfl,fun W hSW=>exec_load_ag stT rfl rfl rfl hSW.2.1⟩) hS (by kernel_rfl) ?_
  go_simp
  refine wpAnyL_take (i:=7) (v:=.agg (opA x none 0)) rfl (by kernel_rfl) (by kernel_rfl) (by kernel_rfl) (fun _ _ _ h=>h) (Or.inl ⟨by kernel_rfl,fun W hSW=>exec_load_ag opT rfl rfl rfl hSW.2.2⟩) hS (by kernel_rfl) ?_
  go_simp
  refine wpAnyL_take (i:=8) (v:=.agg (lnA ⟨(s1,s2),x⟩)) rfl (by kernel_rfl) (by kernel_rfl) (by kernel_rfl) (fun _ _ _ h=>h) (Or.inl ⟨by kernel_rfl,fun W hSW=>exec_build_line _ _ rfl ⟨(s1,s2),x⟩ rfl rfl⟩) hS (by kernel_rfl) ?_
  go_simp
  refine wpAnyL_ready (rs:=[9]) (by kernel_rfl) (by simp) ?_
  refine AllReadyL.cons rfl (fun K hK=>?_) AllReadyL.nil
  refine step_of (by kernel_rfl) ?_
  refine wp_box_line _ rfl (lnA ⟨(s1,s2),x⟩) rfl ?_
  have hba:=(Below.refl we.heap.size we).alloc (Nat.le_refl _) (.cells (lnA ⟨(s1,s2),x⟩) 172)
  have HBA:=Hi hba
  have HLA:=Hi (AgAt.new we (lnA ⟨(s1,s2),x⟩) 172)
  refine hK.out _ _ ⟨by rw [Below.cell hba (cell_lt hS.1)]; exact hS.1,hS.2.1.kept hba,hS.2.2.kept hba⟩ (fun hS=>?_)
  clear hK K hba
  generalize we.alloc (.cells (lnA ⟨(s1,s2),x⟩) 172)=wa at *
  refine wpAnyL_ready (rs:=[10]) (by kernel_rfl) (by simp) ?_
  refine AllReadyL.cons rfl (fun K hK=>?_) AllReadyL.nil
  refine step_of (by kernel_rfl) ?_
  refine wp_build_line _ rfl we.heap.size rfl ?_
  have hbb:=(Below.refl wa.heap.size wa).alloc (Nat.le_refl _) (.cells #[ptV we.heap.size] 162)
  have HVB:=Hi (AgAt.new wa #[ptV we.heap.size] 162)
  have HLB:=Hi (HLA.out.kept hbb)
  have HBB:=Hi (HBA.out.trans (hbb.mono HBA.out.size))
  have HVL:=Hi (show we.heap.size≤wa.heap.size from HBA.out.size)
  refine hK.out _ _ ⟨by rw [Below.cell hbb (cell_lt hS.1)]; exact hS.1,hS.2.1.kept hbb,hS.2.2.kept hbb⟩ (fun hS=>?_)
  clear hK K hbb
  generalize wa.alloc (.cells #[ptV we.heap.size] 162)=wb at *
  refine wpAnyL_ready (rs:=[11]) (by kernel_rfl) (by simp) ?_
  refine AllReadyL.cons rfl (fun K hK=>?_) AllReadyL.nil
  have hro:wb.ownsRow 0 162 1 (.slice po X1.ls.length co) X1.ls.length (X1.ls.map fun e=>ptV e.2):=by
   have h1:=own_belowG HG.out.ro HBB.out
   rwa [HPO.out] at h1
  have HNB:=Hi (show ∀ k,(Value.slice po X1.ls.length co).ownBlock=some k→χ1 k=2 from fun k hk=>HG.out.co k (by rw [HPO.out]; exact hk))
  have hins:=insert_any po X1.ls.length co n wa.heap.size we.heap.size (X1.ls.map fun e=>ptV e.2) wb hro HNL.out HFEW.out HVB.out (fun e=>by
   have h1:=HNB.out _ e
   rw [HG.out.toCore.zero HVL.out] at h1
   cases h1) (fun v hv=>by
   obtain ⟨e,-,rfl⟩:=List.mem_map.1 hv
   rfl)
  go_simp
  go_wp2_with (go_at_call 87; refine hins.mono ?_; rintro e w6 ⟨p6,c6,rfl,ho6,ht6,hn6⟩)
  have hnX:(Value.slice po X1.ls.length co).ownBlock≠some X.b:=fun e=>by
   have h1:=HNB.out _ e
   rw [← HL1.out.b,HG.out.cb] at h1
   cases h1
  have HP6:=Hi (HG.out.put HUL.out HOK.out HSP.out HF60.out HBB.out (Nat.le_refl _) HLB.out HPO.out ho6 ht6 hn6)
  have HB6:=Hi (show ∀ k,k<wb.heap.size→χ1 k=0∨χ1 k=1∨χ1 k=6→w6.heap[k]?=wb.heap[k]? from fun k hk h1=>ht6.block k hk fun e=>by
   have h2:=HNB.out k e
   omega)
  refine hK.out _ _ ⟨ht6.cell hS.1 hnX,hS.2.1.block (HB6.out _ (AgAt.lt hS.2.1) (Or.inl HZB.out.1)),hS.2.2.block (HB6.out _ (AgAt.lt hS.2.2) (Or.inl HZB.out.2))⟩ (fun hS=>?_)
  have y6:=hS.1
  have f6:w6.frozen? ⟨X.b,2,none⟩=false:=by
   have h1:=AgAt.kept HG.out.at_ HBB.out
   rw [HL1.out.b] at h1
   exact AgAt.free (AgAt.block h1 (ht6.block _ (AgAt.lt h1) hnX)) 2
  clear hK K ho6 ht6 hn6 hins hro hnX
  refine wpAnyL_ready (rs:=[12]) (by kernel_rfl) (by simp) ?_
  refine AllReadyL.cons rfl (fun K hK=>?_) AllReadyL.nil
  go_simp
  refine hK.out _ _ hS (fun hS=>?_)
  clear hK K
  refine wpAnyL_take (i:=13) (v:=?_) rfl (by kernel_rfl) (by kernel_rfl) (by kernel_rfl) (fun _ _ _ h=>h) (Or.inl ⟨by kernel_rfl,?_⟩) hS (by kernel_rfl) ?_
  rotate_left
  ·intro W hSW
   go_simp
   all_goals with_reducible rfl
  go_simp
  refine wpAnyL_ready (rs:=[14]) (by kernel_rfl) (by simp) ?_
  refine AllReadyL.last rfl (fun K hK=>?_)
  go_simp
  refine hK.out _ _ ?_
  clear hK K hS y6 f6
  refine wpAnyL_done (by kernel_rfl) ?_ _
  go_simp
  obtain ⟨χ7,hg7,hgo7⟩:=HP6.out
  have hadr:(⟨X1.b,2,none⟩:Addr)=⟨X.b,2,none⟩:=by rw [HL1.out.b]
  rw [hadr] at hg7 hgo7
  have y7:(w6.setCell ⟨X.b,2,none⟩ (.slice p6 (X1.ls.length+1) c6)).cell? ⟨X.b,2,none⟩=some (.slice p6 (X1.ls.length+1) c6):=by
   have h1:=hg7.cO
   change (w6.setCell ⟨X.b,2,none⟩ (.slice p6 (X1.ls.length+1) c6)).cell? ⟨X1.b,2,none⟩=_ at h1
   rwa [hadr] at h1
  have HE:=Hi (show Inserted gg ops χ ⟨(s1,s2),x⟩ w (.returned (.tuple #[.int .i64 ((X1.ls.length - n:Nat):Int),.int .i64 0])) (w6.setCell ⟨X.b,2,none⟩ (.slice p6 (X1.ls.length+1) c6)) from by
   obtain ⟨q1,q2,q3⟩:=HIN.out
   have hgo:=HGO.out.trans hgo7
   refine ⟨χ7,by rw [q1,q2,HLN.out],⟨⟨_,?_,hg7,?_,?_⟩,?_⟩,hgo⟩
   ·show AgAt _ gg #[ptV X1.b]
    rw [HL1.out.b]
    refine HX.out.1.block (hgo.turns.block _ (AgAt.lt HX.out.1) ?_)
    rcases HL.out.gz with h1 | h1 <;> rw [h1] <;> decide
   ·exact HL1.out.lk.trans HX.out.2.2.1
   ·rw [q3]
    show (X1.ls.take n ++ ((⟨(s1,s2),x⟩:Pm.Wr),we.heap.size) :: X1.ls.drop n).map Prod.fst=_
    rw [List.map_append,List.map_cons,List.map_take,List.map_drop]
    unfold Gm.insAt
    rw [← HX.out.2.2.2,← like_ops HL1.out]
    rfl
   ·rw [hgo.keep _ HL.out.lt]
    exact HL.out.gz)
  have hw1:IntKind.i64.wrap ((X1.ls.length:Int)+1 - (n:Int))=(X1.ls.length:Int)+1 - (n:Int):=wraps_i64 _ (by have:=HFEW.out; have:=HNL.out; omega) (by have:=HFEW.out; omega)
  have hw2:IntKind.i64.wrap ((X1.ls.length:Int)+1 - (n:Int) - 1)=((X1.ls.length - n:Nat):Int):=by
   have h1:=HFEW.out
   have h2:=HNL.out
   rw [wraps_i64 _ (by omega) (by omega)]
   omega
  clear hg7 hgo7 HP6 HG HL HX HIN HGO HB6 HNB HO13 HS13
  go_wp2
  go_ret2
  exact HE.out
theorem insOk2_any {gg:Nat} {ops:List Pm.Wr} {χ:Nat→Nat} (s:Qm.St) (x:Opp) (q:Option Addr) (c:Nat) (w:World) (h:Gra w gg ops χ) (hs:Sz x) (ha:Pa w x q c) (hn:okNode s.1 s.2=true) (hr:rightO x=true) (hk:x.k=2) (hl:ops.length<80) :
  Calls Tryz.prog 17 #[ptV gg,.agg #[.int .i64 s.1,.int .i64 s.2],.agg (opA x q c)] w (Inserted gg ops χ ⟨s,x⟩ w):=by
 obtain ⟨s1,s2⟩:=s
 have HL:=Hi h
 have HSZ:=Hi hs
 obtain ⟨X,hgx⟩:∃ X:Gx,AgAt w gg #[ptV X.b]∧Grf w X χ∧X.lk=0∧X.ops=ops:=h.box
 have HX:=Hi hgx
 have HS0:=Hi ((AgAt.new w #[.int .i64 s1,.int .i64 s2] 35).kept ((Below.refl _ _).alloc (Nat.le_refl _) (.cells (opA x q c) 43)))
 have HO:=Hi (show AgAt ((w.alloc (.cells #[.int .i64 s1,.int .i64 s2] 35)).alloc (.cells (opA x q c) 43)) (w.heap.size+1) (opA x q c) from by
  have:=AgAt.new (w.alloc (.cells #[.int .i64 s1,.int .i64 s2] 35)) (opA x q c) 43
  rwa [World.size_alloc] at this)
 have HB:=Hi (((Below.refl w.heap.size w).alloc (Nat.le_refl _) (.cells #[.int .i64 s1,.int .i64 s2] 35)).alloc (by simp) (.cells (opA x q c) 43))
 have HP:=Hi (ha.kept HB.out)
 have HN:=Hi hn
 have HRT:=Hi hr
 have HK:=Hi hk
 have HLO:=Hi hl
 have HOK:=Hi (show Gm.okX ⟨(s1,s2),x⟩=true from Gm.okX_iff.2 ⟨hn,hr,by show x.k=1∨x.k=2∨x.k=5; omega⟩)
 have HPN:=Hi (show x.path=[] from Gm.right_bare hr (by omega))
 clear h hs ha hn hr hk hl hgx
 go_enter Tryz.func17,Tryz.ntmps17
 go_wp2_with fail
 refine (gours_any _ (AgAt.kept HX.out.1 HB.out)).mono ?_
 rintro e w1 ⟨rfl,rfl⟩
 go_wp2_with (refine wpList_load_ag stT (by kernel_rfl) _ rfl _ rfl (A:=#[.int .i64 s1,.int .i64 s2]) rfl HS0.out ?_)
 refine (onode_any s1 s2 _).mono ?_
 rw [HN.out]
 rintro e w2 ⟨rfl,hb2⟩
 replace HP:=Hi (HP.out.kept hb2)
 replace HO:=Hi (HO.out.kept hb2)
 replace HS0:=Hi (HS0.out.kept hb2)
 replace HB:=Hi (HB.out.trans (hb2.mono HB.out.size))
 clear hb2
 go_wp2_with (refine wpList_load_opG otP (by kernel_rfl) _ rfl _ rfl x q c HO.out ?_)
 refine (oright_any x q c _ HSZ.out HP.out).mono ?_
 rw [HRT.out]
 rintro e w3 ⟨rfl,hb3⟩
 replace HP:=Hi (HP.out.kept hb3)
 replace HO:=Hi (HO.out.kept hb3)
 replace HS0:=Hi (HS0.out.kept hb3)
 replace HB:=Hi (HB.out.trans (hb3.mono HB.out.size))
 clear hb3
 have y0:w3.cell? ⟨w.heap.size+1,0,none⟩=some (.int .i64 2):=by
  have h1:w3.cell? ⟨w.heap.size+1,0,none⟩=some (.int .i64 x.k):=HO.out.cell 0
  rwa [HK.out] at h1
 have yg:w3.cell? ⟨gg,0,none⟩=some (ptV X.b):=(AgAt.cell (AgAt.kept HX.out.1 HB.out) 0).trans rfl
 have HC:=Hi (HX.out.2.1.kept HB.out)
 go_upto_region 7 with (first | (refine wpList_load_ag stT (by kernel_rfl) _ rfl _ rfl (A:=#[.int .i64 s1,.int .i64 s2]) rfl HS0.out ?_) | (go_at_call 85; refine (find_any (s1,s2) w3 HC.out.toCore).mono ?_; rintro e w4 ⟨n,b,rfl,hf4,hb4⟩; unfold intB))
 rw [HX.out.2.2.2] at hf4
 have HF:=Hi hf4
 replace HC:=Hi (HC.out.kept hb4)
 replace HO:=Hi (HO.out.kept hb4)
 replace HS0:=Hi (HS0.out.kept hb4)
 replace HB:=Hi (HB.out.trans (hb4.mono HB.out.size))
 clear hb4 hf4 yg y0
 cases b with
 | true =>
  have HDE:=Hi (show Gm.insE ops ⟨(s1,s2),x⟩=4 from by
   obtain ⟨y,hy,hys⟩:=HF.out.2.2 rfl
   obtain ⟨k1,k2,k3⟩:=Gm.okX_iff.1 HOK.out
   have k12:Pm.okW ⟨(s1,s2),x⟩=true:=by
    unfold Pm.okW
    rw [Bool.and_eq_true]
    exact ⟨k1,k2⟩
   unfold Gm.insE
   rw [if_pos k12,if_pos k3,if_pos (Gm.there_iff.2 ⟨y,List.mem_of_getElem? hy,hys⟩)])
  have HE:=Hi (inserted_bad HL.out HB.out HDE.out (by decide))
  clear HL HO HS0 HB HP HX HC HF
  go_wp2
  go_ret2
  exact HE.out
 | false =>
  have hsp:=HF.out.2.1 rfl
  have HSP0:=Hi hsp
  have hops:X.ops=ops:=HX.out.2.2.2
  have hlen:ops.length=X.ls.length:=by rw [← hops]; unfold Gx.ops; rw [List.length_map]
  have HIN:=Hi (Gm.ins_at HL.out.few.1 HOK.out hsp.2 hsp.1)
  obtain ⟨po,co,hpo,-⟩:=own_sliceG HC.out.ro
  have HPO0:=Hi hpo
  have y2:w4.cell? ⟨X.b,2,none⟩=some (.slice po X.ls.length co):=by rw [← hpo]; exact HC.out.cO
  have hl60:X.ls.length<80:=by have:=HLO.out; omega
  have d9:decide ((65536:Int)≤(X.ls.length:Int))=false:=decide_eq_false (by omega)
  have y6:∃ v,w4.cell? ⟨w.heap.size+1,6,none⟩=some v:=⟨_,(HO.out.cell 6).trans rfl⟩
  obtain ⟨v6,y6⟩:=y6
  have f6:w4.frozen? ⟨w.heap.size+1,6,none⟩=false:=HO.out.free 6
  clear hsp hops hpo
  go_upto_region 12 with fail
  clear y2 y6 f6
  have hnle:n≤X.ls.length:=by have:=HF.out.1; omega
  have HO12:=Hi (show AgAt (w4.setCell ⟨w.heap.size+1,6,none⟩ (.slice none 0 0)) (w.heap.size+1) (opA x none 0) from by
   have h1:=AgAt.put HO.out 6 (.slice none 0 0)
   rw [show (opA x q c).setIfInBounds 6 (.slice none 0 0)=opA x none 0 from by unfold opA opL; rw [HPN.out]; rfl] at h1
   exact h1)
  have hb12:Below w.heap.size w (w4.setCell ⟨w.heap.size+1,6,none⟩ (.slice none 0 0)):=HB.out.trans ((set_turns (w.heap.size+1) w4 6 (.slice none 0 0)).below (fun k _ hk=>by rw [show k=w.heap.size+1 from hk]; omega) HB.out.size)
  have HB12:=Hi hb12
  have HS12:=Hi (show AgAt (w4.setCell ⟨w.heap.size+1,6,none⟩ (.slice none 0 0)) w.heap.size #[.int .i64 s1,.int .i64 s2] from HS0.out.block ((set_turns (w.heap.size+1) w4 6 (.slice none 0 0)).block _ (AgAt.lt HS0.out) (by simp)))
  have HC12:=Hi (HX.out.2.1.kept hb12)
  clear hb12 HC HO HS0 HB
  generalize w4.setCell ⟨w.heap.size+1,6,none⟩ (.slice none 0 0)=w12 at *
  go_upto_region 13 with (go_at_call 86; refine (takeBack_any n w12 HC12.out (by omega)).mono ?_; rintro e w13 ⟨rfl,X1,χ1,hg,hl1,hu,hgo⟩)
  have HL1:=Hi hl1
  have HZ0:=Hi (show χ w.heap.size=0∧χ (w.heap.size+1)=0 from ⟨HX.out.2.1.toCore.zero (Nat.le_refl _),HX.out.2.1.toCore.zero (by omega)⟩)
  have HZB:=Hi (show χ1 w.heap.size=0∧χ1 (w.heap.size+1)=0 from ⟨(hgo.keep _ (AgAt.lt HS12.out)).trans HZ0.out.1,(hgo.keep _ (AgAt.lt HO12.out)).trans HZ0.out.2⟩)
  have hbd:=Below.drew (Below.refl w13.heap.size w13)
  have HG:=Hi (hg.kept hbd)
  have HO13:=Hi ((HO12.out.block (hgo.turns.block _ (AgAt.lt HO12.out) (by rw [HZ0.out.2]; decide))).kept hbd)
  have HS13:=Hi ((HS12.out.block (hgo.turns.block _ (AgAt.lt HS12.out) (by rw [HZ0.out.1]; decide))).kept hbd)
  have HGO:=Hi ((Goes.of_below HB12.out).trans (hgo.trans (Goes.of_below hbd)))
  have hll:X1.ls.length=X.ls.length:=by rw [hl1.ls]
  have HPO:=Hi (show X1.po=.slice po X1.ls.length co from by rw [hl1.po,hll]; exact HPO0.out)
  have HLN:=Hi (show ops.length=X1.ls.length from by omega)
  have HUL:=Hi (show X1.us.length≤n from by rw [hu,List.length_take]; exact Nat.min_le_left _ _)
  have HNL:=Hi (show n≤X1.ls.length from by omega)
  have HF60:=Hi (show X1.ls.length<80 from by omega)
  have HFEW:=Hi (show X1.ls.length≤80 from by omega)
  have HSP:=Hi (show Gm.Spot X1.ops (s1,s2) n from by rw [like_ops hl1,HX.out.2.2.2]; exact HSP0.out.1)
  clear hg hl1 hu hgo hbd hll HC12 HO12 HS12 HB12 HPO0 HSP0 HZ0 HF hlen hl60 d9 hnle
  have HSS:=Hi (show w13.drew.cell? ⟨X.b,2,none⟩=some (.slice po X1.ls.length co)∧AgAt w13.drew w.heap.size #[.int .i64 s1,.int .i64 s2]∧AgAt w13.drew (w.heap.size+1) (opA x none 0) from ⟨by rw [← HPO.out,← HL1.out.b]; exact HG.out.cO,HS13.out,HO13.out⟩)
  refine wp_region_last_drew 14 (S:=fun W=>W.cell? ⟨X.b,2,none⟩=some (.slice po X1.ls.length co)∧AgAt W w.heap.size #[.int .i64 s1,.int .i64 s2]∧AgAt W (w.heap.size+1) (opA x none 0)) (by kernel_rfl) HSS.out (fun hS=>?_)
  clear HSS
  generalize w13.drew=we at *
  refine wpAnyL_take (i:=0) (v:=?_) rfl (by kernel_rfl) (by kernel_rfl) (by kernel_rfl) (fun _ _ _ h=>h) (Or.inl ⟨by kernel_rfl,?_⟩) hS (by kernel_rfl) ?_
  rotate_left
  ·intro W hSW
   go_simp
   all_goals with_reducible rfl
  refine wpAnyL_take (i:=1) (v:=?_) rfl (by kernel_rfl) (by kernel_rfl) (by kernel_rfl) (fun _ _ _ h=>h) (Or.inl ⟨by kernel_rfl,?_⟩) hS (by kernel_rfl) ?_
  rotate_left
  ·intro W hSW
   go_simp
   all_goals with_reducible rfl
  refine wpAnyL_take (i:=2) (v:=?_) rfl (by kernel_rfl) (by kernel_rfl) (by kernel_rfl) (fun _ _ _ h=>h) (Or.inl ⟨by kernel_rfl,?_⟩) hS (by kernel_rfl) ?_
  rotate_left
  ·intro W hSW
   go_simp
   all_goals with_reducible rfl
  refine wpAnyL_take (i:=3) (v:=?_) rfl (by kernel_rfl) (by kernel_rfl) (by kernel_rfl) (fun _ _ _ h=>h) (Or.inl ⟨by kernel_rfl,?_⟩) hS (by kernel_rfl) ?_
  rotate_left
  ·intro W hSW
   go_simp
   all_goals with_reducible rfl
  go_simp
  refine wpAnyL_take (i:=4) (v:=?_) rfl (by kernel_rfl) (by kernel_rfl) (by kernel_rfl) (fun _ _ _ h=>h) (Or.inl ⟨by kernel_rfl,?_⟩) hS (by kernel_rfl) ?_
  rotate_left
  ·intro W hSW
   have y:=hSW.1
   go_simp
   all_goals with_reducible rfl
  refine wpAnyL_take (i:=5) (v:=?_) rfl (by kernel_rfl) (by kernel_rfl) (by kernel_rfl) (fun _ _ _ h=>h) (Or.inl ⟨by kernel_rfl,?_⟩) hS (by kernel_rfl) ?_
  rotate_left
  ·intro W hSW
   go_simp
   all_goals with_reducible rfl
  go_simp
  refine wpAnyL_take (i:=6) (v:=.agg #[.int .i64 s1,.int .i64 s2]) rfl (by kernel_rfl) (by kernel_rfl) (by kernel_rfl) (fun _ _ _ h=>h) (Or.inl ⟨by kernel_rfl,fun W hSW=>exec_load_ag stT rfl rfl rfl hSW.2.1⟩) hS (by kernel_rfl) ?_
  go_simp
  refine wpAnyL_take (i:=7) (v:=.agg (opA x none 0)) rfl (by kernel_rfl) (by kernel_rfl) (by kernel_rfl) (fun _ _ _ h=>h) (Or.inl ⟨by kernel_rfl,fun W hSW=>exec_load_ag opT rfl rfl rfl hSW.2.2⟩) hS (by kernel_rfl) ?_
  go_simp
  refine wpAnyL_take (i:=8) (v:=.agg (lnA ⟨(s1,s2),x⟩)) rfl (by kernel_rfl) (by kernel_rfl) (by kernel_rfl) (fun _ _ _ h=>h) (Or.inl ⟨by kernel_rfl,fun W hSW=>exec_build_line _ _ rfl ⟨(s1,s2),x⟩ rfl rfl⟩) hS (by kernel_rfl) ?_
  go_simp
  refine wpAnyL_ready (rs:=[9]) (by kernel_rfl) (by simp) ?_
  refine AllReadyL.cons rfl (fun K hK=>?_) AllReadyL.nil
  refine step_of (by kernel_rfl) ?_
  refine wp_box_line _ rfl (lnA ⟨(s1,s2),x⟩) rfl ?_
  have hba:=(Below.refl we.heap.size we).alloc (Nat.le_refl _) (.cells (lnA ⟨(s1,s2),x⟩) 172)
  have HBA:=Hi hba
  have HLA:=Hi (AgAt.new we (lnA ⟨(s1,s2),x⟩) 172)
  refine hK.out _ _ ⟨by rw [Below.cell hba (cell_lt hS.1)]; exact hS.1,hS.2.1.kept hba,hS.2.2.kept hba⟩ (fun hS=>?_)
  clear hK K hba
  generalize we.alloc (.cells (lnA ⟨(s1,s2),x⟩) 172)=wa at *
  refine wpAnyL_ready (rs:=[10]) (by kernel_rfl) (by simp) ?_
  refine AllReadyL.cons rfl (fun K hK=>?_) AllReadyL.nil
  refine step_of (by kernel_rfl) ?_
  refine wp_build_line _ rfl we.heap.size rfl ?_
  have hbb:=(Below.refl wa.heap.size wa).alloc (Nat.le_refl _) (.cells #[ptV we.heap.size] 162)
  have HVB:=Hi (AgAt.new wa #[ptV we.heap.size] 162)
  have HLB:=Hi (HLA.out.kept hbb)
  have HBB:=Hi (HBA.out.trans (hbb.mono HBA.out.size))
  have HVL:=Hi (show we.heap.size≤wa.heap.size from HBA.out.size)
  refine hK.out _ _ ⟨by rw [Below.cell hbb (cell_lt hS.1)]; exact hS.1,hS.2.1.kept hbb,hS.2.2.kept hbb⟩ (fun hS=>?_)
  clear hK K hbb
  generalize wa.alloc (.cells #[ptV we.heap.size] 162)=wb at *
  refine wpAnyL_ready (rs:=[11]) (by kernel_rfl) (by simp) ?_
  refine AllReadyL.cons rfl (fun K hK=>?_) AllReadyL.nil
  have hro:wb.ownsRow 0 162 1 (.slice po X1.ls.length co) X1.ls.length (X1.ls.map fun e=>ptV e.2):=by
   have h1:=own_belowG HG.out.ro HBB.out
   rwa [HPO.out] at h1
  have HNB:=Hi (show ∀ k,(Value.slice po X1.ls.length co).ownBlock=some k→χ1 k=2 from fun k hk=>HG.out.co k (by rw [HPO.out]; exact hk))
  have hins:=insert_any po X1.ls.length co n wa.heap.size we.heap.size (X1.ls.map fun e=>ptV e.2) wb hro HNL.out HFEW.out HVB.out (fun e=>by
   have h1:=HNB.out _ e
   rw [HG.out.toCore.zero HVL.out] at h1
   cases h1) (fun v hv=>by
   obtain ⟨e,-,rfl⟩:=List.mem_map.1 hv
   rfl)
  go_simp
  go_wp2_with (go_at_call 87; refine hins.mono ?_; rintro e w6 ⟨p6,c6,rfl,ho6,ht6,hn6⟩)
  have hnX:(Value.slice po X1.ls.length co).ownBlock≠some X.b:=fun e=>by
   have h1:=HNB.out _ e
   rw [← HL1.out.b,HG.out.cb] at h1
   cases h1
  have HP6:=Hi (HG.out.put HUL.out HOK.out HSP.out HF60.out HBB.out (Nat.le_refl _) HLB.out HPO.out ho6 ht6 hn6)
  have HB6:=Hi (show ∀ k,k<wb.heap.size→χ1 k=0∨χ1 k=1∨χ1 k=6→w6.heap[k]?=wb.heap[k]? from fun k hk h1=>ht6.block k hk fun e=>by
   have h2:=HNB.out k e
   omega)
  refine hK.out _ _ ⟨ht6.cell hS.1 hnX,hS.2.1.block (HB6.out _ (AgAt.lt hS.2.1) (Or.inl HZB.out.1)),hS.2.2.block (HB6.out _ (AgAt.lt hS.2.2) (Or.inl HZB.out.2))⟩ (fun hS=>?_)
  have y6:=hS.1
  have f6:w6.frozen? ⟨X.b,2,none⟩=false:=by
   have h1:=AgAt.kept HG.out.at_ HBB.out
   rw [HL1.out.b] at h1
   exact AgAt.free (AgAt.block h1 (ht6.block _ (AgAt.lt h1) hnX)) 2
  clear hK K ho6 ht6 hn6 hins hro hnX
  refine wpAnyL_ready (rs:=[12]) (by kernel_rfl) (by simp) ?_
  refine AllReadyL.cons rfl (fun K hK=>?_) AllReadyL.nil
  go_simp
  refine hK.out _ _ hS (fun hS=>?_)
  clear hK K
  refine wpAnyL_take (i:=13) (v:=?_) rfl (by kernel_rfl) (by kernel_rfl) (by kernel_rfl) (fun _ _ _ h=>h) (Or.inl ⟨by kernel_rfl,?_⟩) hS (by kernel_rfl) ?_
  rotate_left
  ·intro W hSW
   go_simp
   all_goals with_reducible rfl
  go_simp
  refine wpAnyL_ready (rs:=[14]) (by kernel_rfl) (by simp) ?_
  refine AllReadyL.last rfl (fun K hK=>?_)
  go_simp
  refine hK.out _ _ ?_
  clear hK K hS y6 f6
  refine wpAnyL_done (by kernel_rfl) ?_ _
  go_simp
  obtain ⟨χ7,hg7,hgo7⟩:=HP6.out
  have hadr:(⟨X1.b,2,none⟩:Addr)=⟨X.b,2,none⟩:=by rw [HL1.out.b]
  rw [hadr] at hg7 hgo7
  have y7:(w6.setCell ⟨X.b,2,none⟩ (.slice p6 (X1.ls.length+1) c6)).cell? ⟨X.b,2,none⟩=some (.slice p6 (X1.ls.length+1) c6):=by
   have h1:=hg7.cO
   change (w6.setCell ⟨X.b,2,none⟩ (.slice p6 (X1.ls.length+1) c6)).cell? ⟨X1.b,2,none⟩=_ at h1
   rwa [hadr] at h1
  have HE:=Hi (show Inserted gg ops χ ⟨(s1,s2),x⟩ w (.returned (.tuple #[.int .i64 ((X1.ls.length - n:Nat):Int),.int .i64 0])) (w6.setCell ⟨X.b,2,none⟩ (.slice p6 (X1.ls.length+1) c6)) from by
   obtain ⟨q1,q2,q3⟩:=HIN.out
   have hgo:=HGO.out.trans hgo7
   refine ⟨χ7,by rw [q1,q2,HLN.out],⟨⟨_,?_,hg7,?_,?_⟩,?_⟩,hgo⟩
   ·show AgAt _ gg #[ptV X1.b]
    rw [HL1.out.b]
    refine HX.out.1.block (hgo.turns.block _ (AgAt.lt HX.out.1) ?_)
    rcases HL.out.gz with h1 | h1 <;> rw [h1] <;> decide
   ·exact HL1.out.lk.trans HX.out.2.2.1
   ·rw [q3]
    show (X1.ls.take n ++ ((⟨(s1,s2),x⟩:Pm.Wr),we.heap.size) :: X1.ls.drop n).map Prod.fst=_
    rw [List.map_append,List.map_cons,List.map_take,List.map_drop]
    unfold Gm.insAt
    rw [← HX.out.2.2.2,← like_ops HL1.out]
    rfl
   ·rw [hgo.keep _ HL.out.lt]
    exact HL.out.gz)
  have hw1:IntKind.i64.wrap ((X1.ls.length:Int)+1 - (n:Int))=(X1.ls.length:Int)+1 - (n:Int):=wraps_i64 _ (by have:=HFEW.out; have:=HNL.out; omega) (by have:=HFEW.out; omega)
  have hw2:IntKind.i64.wrap ((X1.ls.length:Int)+1 - (n:Int) - 1)=((X1.ls.length - n:Nat):Int):=by
   have h1:=HFEW.out
   have h2:=HNL.out
   rw [wraps_i64 _ (by omega) (by omega)]
   omega
  clear hg7 hgo7 HP6 HG HL HX HIN HGO HB6 HNB HO13 HS13
  go_wp2
  go_ret2
  exact HE.out
theorem insOk5_any {gg:Nat} {ops:List Pm.Wr} {χ:Nat→Nat} (s:Qm.St) (x:Opp) (q:Option Addr) (c:Nat) (w:World) (h:Gra w gg ops χ) (hs:Sz x) (ha:Pa w x q c) (hn:okNode s.1 s.2=true) (hr:rightO x=true) (hk:x.k=5) (hl:ops.length<80) :
  Calls Tryz.prog 17 #[ptV gg,.agg #[.int .i64 s.1,.int .i64 s.2],.agg (opA x q c)] w (Inserted gg ops χ ⟨s,x⟩ w):=by
 obtain ⟨s1,s2⟩:=s
 have HL:=Hi h
 have HSZ:=Hi hs
 obtain ⟨X,hgx⟩:∃ X:Gx,AgAt w gg #[ptV X.b]∧Grf w X χ∧X.lk=0∧X.ops=ops:=h.box
 have HX:=Hi hgx
 have HS0:=Hi ((AgAt.new w #[.int .i64 s1,.int .i64 s2] 35).kept ((Below.refl _ _).alloc (Nat.le_refl _) (.cells (opA x q c) 43)))
 have HO:=Hi (show AgAt ((w.alloc (.cells #[.int .i64 s1,.int .i64 s2] 35)).alloc (.cells (opA x q c) 43)) (w.heap.size+1) (opA x q c) from by
  have:=AgAt.new (w.alloc (.cells #[.int .i64 s1,.int .i64 s2] 35)) (opA x q c) 43
  rwa [World.size_alloc] at this)
 have HB:=Hi (((Below.refl w.heap.size w).alloc (Nat.le_refl _) (.cells #[.int .i64 s1,.int .i64 s2] 35)).alloc (by simp) (.cells (opA x q c) 43))
 have HP:=Hi (ha.kept HB.out)
 have HN:=Hi hn
 have HRT:=Hi hr
 have HK:=Hi hk
 have HLO:=Hi hl
 have HOK:=Hi (show Gm.okX ⟨(s1,s2),x⟩=true from Gm.okX_iff.2 ⟨hn,hr,by show x.k=1∨x.k=2∨x.k=5; omega⟩)
 have HPN:=Hi (show x.path=[] from Gm.right_bare hr (by omega))
 clear h hs ha hn hr hk hl hgx
 go_enter Tryz.func17,Tryz.ntmps17
 go_wp2_with fail
 refine (gours_any _ (AgAt.kept HX.out.1 HB.out)).mono ?_
 rintro e w1 ⟨rfl,rfl⟩
 go_wp2_with (refine wpList_load_ag stT (by kernel_rfl) _ rfl _ rfl (A:=#[.int .i64 s1,.int .i64 s2]) rfl HS0.out ?_)
 refine (onode_any s1 s2 _).mono ?_
 rw [HN.out]
 rintro e w2 ⟨rfl,hb2⟩
 replace HP:=Hi (HP.out.kept hb2)
 replace HO:=Hi (HO.out.kept hb2)
 replace HS0:=Hi (HS0.out.kept hb2)
 replace HB:=Hi (HB.out.trans (hb2.mono HB.out.size))
 clear hb2
 go_wp2_with (refine wpList_load_opG otP (by kernel_rfl) _ rfl _ rfl x q c HO.out ?_)
 refine (oright_any x q c _ HSZ.out HP.out).mono ?_
 rw [HRT.out]
 rintro e w3 ⟨rfl,hb3⟩
 replace HP:=Hi (HP.out.kept hb3)
 replace HO:=Hi (HO.out.kept hb3)
 replace HS0:=Hi (HS0.out.kept hb3)
 replace HB:=Hi (HB.out.trans (hb3.mono HB.out.size))
 clear hb3
 have y0:w3.cell? ⟨w.heap.size+1,0,none⟩=some (.int .i64 5):=by
  have h1:w3.cell? ⟨w.heap.size+1,0,none⟩=some (.int .i64 x.k):=HO.out.cell 0
  rwa [HK.out] at h1
 have yg:w3.cell? ⟨gg,0,none⟩=some (ptV X.b):=(AgAt.cell (AgAt.kept HX.out.1 HB.out) 0).trans rfl
 have HC:=Hi (HX.out.2.1.kept HB.out)
 go_upto_region 7 with (first | (refine wpList_load_ag stT (by kernel_rfl) _ rfl _ rfl (A:=#[.int .i64 s1,.int .i64 s2]) rfl HS0.out ?_) | (go_at_call 85; refine (find_any (s1,s2) w3 HC.out.toCore).mono ?_; rintro e w4 ⟨n,b,rfl,hf4,hb4⟩; unfold intB))
 rw [HX.out.2.2.2] at hf4
 have HF:=Hi hf4
 replace HC:=Hi (HC.out.kept hb4)
 replace HO:=Hi (HO.out.kept hb4)
 replace HS0:=Hi (HS0.out.kept hb4)
 replace HB:=Hi (HB.out.trans (hb4.mono HB.out.size))
 clear hb4 hf4 yg y0
 cases b with
 | true =>
  have HDE:=Hi (show Gm.insE ops ⟨(s1,s2),x⟩=4 from by
   obtain ⟨y,hy,hys⟩:=HF.out.2.2 rfl
   obtain ⟨k1,k2,k3⟩:=Gm.okX_iff.1 HOK.out
   have k12:Pm.okW ⟨(s1,s2),x⟩=true:=by
    unfold Pm.okW
    rw [Bool.and_eq_true]
    exact ⟨k1,k2⟩
   unfold Gm.insE
   rw [if_pos k12,if_pos k3,if_pos (Gm.there_iff.2 ⟨y,List.mem_of_getElem? hy,hys⟩)])
  have HE:=Hi (inserted_bad HL.out HB.out HDE.out (by decide))
  clear HL HO HS0 HB HP HX HC HF
  go_wp2
  go_ret2
  exact HE.out
 | false =>
  have hsp:=HF.out.2.1 rfl
  have HSP0:=Hi hsp
  have hops:X.ops=ops:=HX.out.2.2.2
  have hlen:ops.length=X.ls.length:=by rw [← hops]; unfold Gx.ops; rw [List.length_map]
  have HIN:=Hi (Gm.ins_at HL.out.few.1 HOK.out hsp.2 hsp.1)
  obtain ⟨po,co,hpo,-⟩:=own_sliceG HC.out.ro
  have HPO0:=Hi hpo
  have y2:w4.cell? ⟨X.b,2,none⟩=some (.slice po X.ls.length co):=by rw [← hpo]; exact HC.out.cO
  have hl60:X.ls.length<80:=by have:=HLO.out; omega
  have d9:decide ((65536:Int)≤(X.ls.length:Int))=false:=decide_eq_false (by omega)
  have y6:∃ v,w4.cell? ⟨w.heap.size+1,6,none⟩=some v:=⟨_,(HO.out.cell 6).trans rfl⟩
  obtain ⟨v6,y6⟩:=y6
  have f6:w4.frozen? ⟨w.heap.size+1,6,none⟩=false:=HO.out.free 6
  clear hsp hops hpo
  go_upto_region 12 with fail
  clear y2 y6 f6
  have hnle:n≤X.ls.length:=by have:=HF.out.1; omega
  have HO12:=Hi (show AgAt (w4.setCell ⟨w.heap.size+1,6,none⟩ (.slice none 0 0)) (w.heap.size+1) (opA x none 0) from by
   have h1:=AgAt.put HO.out 6 (.slice none 0 0)
   rw [show (opA x q c).setIfInBounds 6 (.slice none 0 0)=opA x none 0 from by unfold opA opL; rw [HPN.out]; rfl] at h1
   exact h1)
  have hb12:Below w.heap.size w (w4.setCell ⟨w.heap.size+1,6,none⟩ (.slice none 0 0)):=HB.out.trans ((set_turns (w.heap.size+1) w4 6 (.slice none 0 0)).below (fun k _ hk=>by rw [show k=w.heap.size+1 from hk]; omega) HB.out.size)
  have HB12:=Hi hb12
  have HS12:=Hi (show AgAt (w4.setCell ⟨w.heap.size+1,6,none⟩ (.slice none 0 0)) w.heap.size #[.int .i64 s1,.int .i64 s2] from HS0.out.block ((set_turns (w.heap.size+1) w4 6 (.slice none 0 0)).block _ (AgAt.lt HS0.out) (by simp)))
  have HC12:=Hi (HX.out.2.1.kept hb12)
  clear hb12 HC HO HS0 HB
  generalize w4.setCell ⟨w.heap.size+1,6,none⟩ (.slice none 0 0)=w12 at *
  go_upto_region 13 with (go_at_call 86; refine (takeBack_any n w12 HC12.out (by omega)).mono ?_; rintro e w13 ⟨rfl,X1,χ1,hg,hl1,hu,hgo⟩)
  have HL1:=Hi hl1
  have HZ0:=Hi (show χ w.heap.size=0∧χ (w.heap.size+1)=0 from ⟨HX.out.2.1.toCore.zero (Nat.le_refl _),HX.out.2.1.toCore.zero (by omega)⟩)
  have HZB:=Hi (show χ1 w.heap.size=0∧χ1 (w.heap.size+1)=0 from ⟨(hgo.keep _ (AgAt.lt HS12.out)).trans HZ0.out.1,(hgo.keep _ (AgAt.lt HO12.out)).trans HZ0.out.2⟩)
  have hbd:=Below.drew (Below.refl w13.heap.size w13)
  have HG:=Hi (hg.kept hbd)
  have HO13:=Hi ((HO12.out.block (hgo.turns.block _ (AgAt.lt HO12.out) (by rw [HZ0.out.2]; decide))).kept hbd)
  have HS13:=Hi ((HS12.out.block (hgo.turns.block _ (AgAt.lt HS12.out) (by rw [HZ0.out.1]; decide))).kept hbd)
  have HGO:=Hi ((Goes.of_below HB12.out).trans (hgo.trans (Goes.of_below hbd)))
  have hll:X1.ls.length=X.ls.length:=by rw [hl1.ls]
  have HPO:=Hi (show X1.po=.slice po X1.ls.length co from by rw [hl1.po,hll]; exact HPO0.out)
  have HLN:=Hi (show ops.length=X1.ls.length from by omega)
  have HUL:=Hi (show X1.us.length≤n from by rw [hu,List.length_take]; exact Nat.min_le_left _ _)
  have HNL:=Hi (show n≤X1.ls.length from by omega)
  have HF60:=Hi (show X1.ls.length<80 from by omega)
  have HFEW:=Hi (show X1.ls.length≤80 from by omega)
  have HSP:=Hi (show Gm.Spot X1.ops (s1,s2) n from by rw [like_ops hl1,HX.out.2.2.2]; exact HSP0.out.1)
  clear hg hl1 hu hgo hbd hll HC12 HO12 HS12 HB12 HPO0 HSP0 HZ0 HF hlen hl60 d9 hnle
  have HSS:=Hi (show w13.drew.cell? ⟨X.b,2,none⟩=some (.slice po X1.ls.length co)∧AgAt w13.drew w.heap.size #[.int .i64 s1,.int .i64 s2]∧AgAt w13.drew (w.heap.size+1) (opA x none 0) from ⟨by rw [← HPO.out,← HL1.out.b]; exact HG.out.cO,HS13.out,HO13.out⟩)
  refine wp_region_last_drew 14 (S:=fun W=>W.cell? ⟨X.b,2,none⟩=some (.slice po X1.ls.length co)∧AgAt W w.heap.size #[.int .i64 s1,.int .i64 s2]∧AgAt W (w.heap.size+1) (opA x none 0)) (by kernel_rfl) HSS.out (fun hS=>?_)
  clear HSS
  generalize w13.drew=we at *
  refine wpAnyL_take (i:=0) (v:=?_) rfl (by kernel_rfl) (by kernel_rfl) (by kernel_rfl) (fun _ _ _ h=>h) (Or.inl ⟨by kernel_rfl,?_⟩) hS (by kernel_rfl) ?_
  rotate_left
  ·intro W hSW
   go_simp
   all_goals with_reducible rfl
  refine wpAnyL_take (i:=1) (v:=?_) rfl (by kernel_rfl) (by kernel_rfl) (by kernel_rfl) (fun _ _ _ h=>h) (Or.inl ⟨by kernel_rfl,?_⟩) hS (by kernel_rfl) ?_
  rotate_left
  ·intro W hSW
   go_simp
   all_goals with_reducible rfl
  refine wpAnyL_take (i:=2) (v:=?_) rfl (by kernel_rfl) (by kernel_rfl) (by kernel_rfl) (fun _ _ _ h=>h) (Or.inl ⟨by kernel_rfl,?_⟩) hS (by kernel_rfl) ?_
  rotate_left
  ·intro W hSW
   go_simp
   all_goals with_reducible rfl
  refine wpAnyL_take (i:=3) (v:=?_) rfl (by kernel_rfl) (by kernel_rfl) (by kernel_rfl) (fun _ _ _ h=>h) (Or.inl ⟨by kernel_rfl,?_⟩) hS (by kernel_rfl) ?_
  rotate_left
  ·intro W hSW
   go_simp
   all_goals with_reducible rfl
  go_simp
  refine wpAnyL_take (i:=4) (v:=?_) rfl (by kernel_rfl) (by kernel_rfl) (by kernel_rfl) (fun _ _ _ h=>h) (Or.inl ⟨by kernel_rfl,?_⟩) hS (by kernel_rfl) ?_
  rotate_left
  ·intro W hSW
   have y:=hSW.1
   go_simp
   all_goals with_reducible rfl
  refine wpAnyL_take (i:=5) (v:=?_) rfl (by kernel_rfl) (by kernel_rfl) (by kernel_rfl) (fun _ _ _ h=>h) (Or.inl ⟨by kernel_rfl,?_⟩) hS (by kernel_rfl) ?_
  rotate_left
  ·intro W hSW
   go_simp
   all_goals with_reducible rfl
  go_simp
  refine wpAnyL_take (i:=6) (v:=.agg #[.int .i64 s1,.int .i64 s2]) rfl (by kernel_rfl) (by kernel_rfl) (by kernel_rfl) (fun _ _ _ h=>h) (Or.inl ⟨by kernel_rfl,fun W hSW=>exec_load_ag stT rfl rfl rfl hSW.2.1⟩) hS (by kernel_rfl) ?_
  go_simp
  refine wpAnyL_take (i:=7) (v:=.agg (opA x none 0)) rfl (by kernel_rfl) (by kernel_rfl) (by kernel_rfl) (fun _ _ _ h=>h) (Or.inl ⟨by kernel_rfl,fun W hSW=>exec_load_ag opT rfl rfl rfl hSW.2.2⟩) hS (by kernel_rfl) ?_
  go_simp
  refine wpAnyL_take (i:=8) (v:=.agg (lnA ⟨(s1,s2),x⟩)) rfl (by kernel_rfl) (by kernel_rfl) (by kernel_rfl) (fun _ _ _ h=>h) (Or.inl ⟨by kernel_rfl,fun W hSW=>exec_build_line _ _ rfl ⟨(s1,s2),x⟩ rfl rfl⟩) hS (by kernel_rfl) ?_
  go_simp
  refine wpAnyL_ready (rs:=[9]) (by kernel_rfl) (by simp) ?_
  refine AllReadyL.cons rfl (fun K hK=>?_) AllReadyL.nil
  refine step_of (by kernel_rfl) ?_
  refine wp_box_line _ rfl (lnA ⟨(s1,s2),x⟩) rfl ?_
  have hba:=(Below.refl we.heap.size we).alloc (Nat.le_refl _) (.cells (lnA ⟨(s1,s2),x⟩) 172)
  have HBA:=Hi hba
  have HLA:=Hi (AgAt.new we (lnA ⟨(s1,s2),x⟩) 172)
  refine hK.out _ _ ⟨by rw [Below.cell hba (cell_lt hS.1)]; exact hS.1,hS.2.1.kept hba,hS.2.2.kept hba⟩ (fun hS=>?_)
  clear hK K hba
  generalize we.alloc (.cells (lnA ⟨(s1,s2),x⟩) 172)=wa at *
  refine wpAnyL_ready (rs:=[10]) (by kernel_rfl) (by simp) ?_
  refine AllReadyL.cons rfl (fun K hK=>?_) AllReadyL.nil
  refine step_of (by kernel_rfl) ?_
  refine wp_build_line _ rfl we.heap.size rfl ?_
  have hbb:=(Below.refl wa.heap.size wa).alloc (Nat.le_refl _) (.cells #[ptV we.heap.size] 162)
  have HVB:=Hi (AgAt.new wa #[ptV we.heap.size] 162)
  have HLB:=Hi (HLA.out.kept hbb)
  have HBB:=Hi (HBA.out.trans (hbb.mono HBA.out.size))
  have HVL:=Hi (show we.heap.size≤wa.heap.size from HBA.out.size)
  refine hK.out _ _ ⟨by rw [Below.cell hbb (cell_lt hS.1)]; exact hS.1,hS.2.1.kept hbb,hS.2.2.kept hbb⟩ (fun hS=>?_)
  clear hK K hbb
  generalize wa.alloc (.cells #[ptV we.heap.size] 162)=wb at *
  refine wpAnyL_ready (rs:=[11]) (by kernel_rfl) (by simp) ?_
  refine AllReadyL.cons rfl (fun K hK=>?_) AllReadyL.nil
  have hro:wb.ownsRow 0 162 1 (.slice po X1.ls.length co) X1.ls.length (X1.ls.map fun e=>ptV e.2):=by
   have h1:=own_belowG HG.out.ro HBB.out
   rwa [HPO.out] at h1
  have HNB:=Hi (show ∀ k,(Value.slice po X1.ls.length co).ownBlock=some k→χ1 k=2 from fun k hk=>HG.out.co k (by rw [HPO.out]; exact hk))
  have hins:=insert_any po X1.ls.length co n wa.heap.size we.heap.size (X1.ls.map fun e=>ptV e.2) wb hro HNL.out HFEW.out HVB.out (fun e=>by
   have h1:=HNB.out _ e
   rw [HG.out.toCore.zero HVL.out] at h1
   cases h1) (fun v hv=>by
   obtain ⟨e,-,rfl⟩:=List.mem_map.1 hv
   rfl)
  go_simp
  go_wp2_with (go_at_call 87; refine hins.mono ?_; rintro e w6 ⟨p6,c6,rfl,ho6,ht6,hn6⟩)
  have hnX:(Value.slice po X1.ls.length co).ownBlock≠some X.b:=fun e=>by
   have h1:=HNB.out _ e
   rw [← HL1.out.b,HG.out.cb] at h1
   cases h1
  have HP6:=Hi (HG.out.put HUL.out HOK.out HSP.out HF60.out HBB.out (Nat.le_refl _) HLB.out HPO.out ho6 ht6 hn6)
  have HB6:=Hi (show ∀ k,k<wb.heap.size→χ1 k=0∨χ1 k=1∨χ1 k=6→w6.heap[k]?=wb.heap[k]? from fun k hk h1=>ht6.block k hk fun e=>by
   have h2:=HNB.out k e
   omega)
  refine hK.out _ _ ⟨ht6.cell hS.1 hnX,hS.2.1.block (HB6.out _ (AgAt.lt hS.2.1) (Or.inl HZB.out.1)),hS.2.2.block (HB6.out _ (AgAt.lt hS.2.2) (Or.inl HZB.out.2))⟩ (fun hS=>?_)
  have y6:=hS.1
  have f6:w6.frozen? ⟨X.b,2,none⟩=false:=by
   have h1:=AgAt.kept HG.out.at_ HBB.out
   rw [HL1.out.b] at h1
   exact AgAt.free (AgAt.block h1 (ht6.block _ (AgAt.lt h1) hnX)) 2
  clear hK K ho6 ht6 hn6 hins hro hnX
  refine wpAnyL_ready (rs:=[12]) (by kernel_rfl) (by simp) ?_
  refine AllReadyL.cons rfl (fun K hK=>?_) AllReadyL.nil
  go_simp
  refine hK.out _ _ hS (fun hS=>?_)
  clear hK K
  refine wpAnyL_take (i:=13) (v:=?_) rfl (by kernel_rfl) (by kernel_rfl) (by kernel_rfl) (fun _ _ _ h=>h) (Or.inl ⟨by kernel_rfl,?_⟩) hS (by kernel_rfl) ?_
  rotate_left
  ·intro W hSW
   go_simp
   all_goals with_reducible rfl
  go_simp
  refine wpAnyL_ready (rs:=[14]) (by kernel_rfl) (by simp) ?_
  refine AllReadyL.last rfl (fun K hK=>?_)
  go_simp
  refine hK.out _ _ ?_
  clear hK K hS y6 f6
  refine wpAnyL_done (by kernel_rfl) ?_ _
  go_simp
  obtain ⟨χ7,hg7,hgo7⟩:=HP6.out
  have hadr:(⟨X1.b,2,none⟩:Addr)=⟨X.b,2,none⟩:=by rw [HL1.out.b]
  rw [hadr] at hg7 hgo7
  have y7:(w6.setCell ⟨X.b,2,none⟩ (.slice p6 (X1.ls.length+1) c6)).cell? ⟨X.b,2,none⟩=some (.slice p6 (X1.ls.length+1) c6):=by
   have h1:=hg7.cO
   change (w6.setCell ⟨X.b,2,none⟩ (.slice p6 (X1.ls.length+1) c6)).cell? ⟨X1.b,2,none⟩=_ at h1
   rwa [hadr] at h1
  have HE:=Hi (show Inserted gg ops χ ⟨(s1,s2),x⟩ w (.returned (.tuple #[.int .i64 ((X1.ls.length - n:Nat):Int),.int .i64 0])) (w6.setCell ⟨X.b,2,none⟩ (.slice p6 (X1.ls.length+1) c6)) from by
   obtain ⟨q1,q2,q3⟩:=HIN.out
   have hgo:=HGO.out.trans hgo7
   refine ⟨χ7,by rw [q1,q2,HLN.out],⟨⟨_,?_,hg7,?_,?_⟩,?_⟩,hgo⟩
   ·show AgAt _ gg #[ptV X1.b]
    rw [HL1.out.b]
    refine HX.out.1.block (hgo.turns.block _ (AgAt.lt HX.out.1) ?_)
    rcases HL.out.gz with h1 | h1 <;> rw [h1] <;> decide
   ·exact HL1.out.lk.trans HX.out.2.2.1
   ·rw [q3]
    show (X1.ls.take n ++ ((⟨(s1,s2),x⟩:Pm.Wr),we.heap.size) :: X1.ls.drop n).map Prod.fst=_
    rw [List.map_append,List.map_cons,List.map_take,List.map_drop]
    unfold Gm.insAt
    rw [← HX.out.2.2.2,← like_ops HL1.out]
    rfl
   ·rw [hgo.keep _ HL.out.lt]
    exact HL.out.gz)
  have hw1:IntKind.i64.wrap ((X1.ls.length:Int)+1 - (n:Int))=(X1.ls.length:Int)+1 - (n:Int):=wraps_i64 _ (by have:=HFEW.out; have:=HNL.out; omega) (by have:=HFEW.out; omega)
  have hw2:IntKind.i64.wrap ((X1.ls.length:Int)+1 - (n:Int) - 1)=((X1.ls.length - n:Nat):Int):=by
   have h1:=HFEW.out
   have h2:=HNL.out
   rw [wraps_i64 _ (by omega) (by omega)]
   omega
  clear hg7 hgo7 HP6 HG HL HX HIN HGO HB6 HNB HO13 HS13
  go_wp2
  go_ret2
  exact HE.out
theorem ginsert_any {gg:Nat} {ops:List Pm.Wr} {χ:Nat→Nat} (s:Qm.St) (x:Opp) (q:Option Addr) (c:Nat) (w:World) (h:Gra w gg ops χ) (hs:Sz x) (ha:Pa w x q c) (hl:ops.length<80) :
  Calls Tryz.prog 17 #[ptV gg,.agg #[.int .i64 s.1,.int .i64 s.2],.agg (opA x q c)] w (Inserted gg ops χ ⟨s,x⟩ w):=by
 cases hn:okNode s.1 s.2 with
 | false=>exact ins0_any s x q c w h hs ha hn
 | true =>
  cases hr:rightO x with
  | false=>exact ins1_any s x q c w h hs ha hn hr
  | true =>
   by_cases k1:x.k=1
   ·exact insOk1_any s x q c w h hs ha hn hr k1 hl
   by_cases k2:x.k=2
   ·exact insOk2_any s x q c w h hs ha hn hr k2 hl
   by_cases k5:x.k=5
   ·exact insOk5_any s x q c w h hs ha hn hr k5 hl
   exact insK_any s x q c w h hs ha hn hr k1 k2 k5
end Go.Proofs.YthfhefdfehlbkaaGreat

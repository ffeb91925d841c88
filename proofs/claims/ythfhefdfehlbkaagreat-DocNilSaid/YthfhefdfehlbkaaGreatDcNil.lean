/-
  DOCNIL: the walk: no document, and one that nobody made.
  No conditions but sizes.
-/
import Derived.Test.YthfhefdfehlbkaaGreatSh
import Derived.Test.YthfhefdfehlbkaaGreatK33
import Derived.Test.YthfhefdfehlbkaaGreatK36
import Derived.Test.YthfhefdfehlbkaaGreatK37
set_option maxRecDepth 100000
set_option maxHeartbeats 32000000
namespace Go.Proofs.YthfhefdfehlbkaaGreat
open Go.RowKit
open Tm (Sp Tr)
theorem zv_eq:vecA (fun _=>0)=#[.int .i64 0,.int .i64 0,.int .i64 0,.int .i64 0,.int .i64 0,.int .i64 0,.int .i64 0,.int .i64 0,.int .i64 0,.int .i64 0,.int .i64 0,.int .i64 0,.int .i64 0,.int .i64 0,.int .i64 0,.int .i64 0]:=rfl
theorem exec_build_spN {o:Oper} {a:Act} {w:World} (ho:o.op=.build 106 #[]):(execOp a.eval o).run Tryz.prog w=.ok (.value (.agg (spA zS))) w:=by
 unfold execOp
 simp only [ho,Sem.run_bind,Sem.run_pure,Result.andThen_ok,List.map_toArray,List.map_nil,run_build_zsp]
theorem exec_build_vlN {o:Oper} {a:Act} {w:World} (ho:o.op=.build 38 #[]):(execOp a.eval o).run Tryz.prog w=.ok (.value (.agg (vlA Pm.z0))) w:=by
 have hr:(Instr.build 38 #[]).run Tryz.prog w=.ok (.agg (vlA Pm.z0)) w:=by kernel_rfl
 unfold execOp
 simp only [ho,Sem.run_bind,Sem.run_pure,Result.andThen_ok,List.map_toArray,List.map_nil,hr]
theorem exec_build_zv {o:Oper} {a:Act} {w:World} (ho:o.op=.build 93 #[]):(execOp a.eval o).run Tryz.prog w=.ok (.value (.agg #[.int .i64 0,.int .i64 0,.int .i64 0,.int .i64 0,.int .i64 0,.int .i64 0,.int .i64 0,.int .i64 0,.int .i64 0,.int .i64 0,.int .i64 0,.int .i64 0,.int .i64 0,.int .i64 0,.int .i64 0,.int .i64 0])) w:=by
 have hr:(Instr.build 93 #[]).run Tryz.prog w=.ok (.agg #[.int .i64 0,.int .i64 0,.int .i64 0,.int .i64 0,.int .i64 0,.int .i64 0,.int .i64 0,.int .i64 0,.int .i64 0,.int .i64 0,.int .i64 0,.int .i64 0,.int .i64 0,.int .i64 0,.int .i64 0,.int .i64 0]) w:=by kernel_rfl
 unfold execOp
 simp only [ho,Sem.run_bind,Sem.run_pure,Result.andThen_ok,List.map_toArray,List.map_nil,hr]
theorem exec_neq_same {c:Act} {o:Oper} {x y:Operand} {t ty:TypeId} {A:Array Value} (ho:o.op=.binOp .neq t x y ty) {w:World} (hx:c.eval x=.agg A) (hy:c.eval y=.agg A) (hr:∀ w,Sem.run Tryz.prog (Op.equalIn 10000 t (.agg A) (.agg A)) w=.ok true w) (hg:∀ w,Sem.run Tryz.prog (eqGuard BinOp.neq t x y (.agg A) (.agg A)) w=.ok () w):(execOp c.eval o).run Tryz.prog w=.ok (.value (.bool false)) w:=by
 unfold execOp
 simp only [ho,hx,hy]
 go_simp
theorem wpList_build_rb {w:World} {ops:Array Oper} {rest:List Oper} {o:Oper} {a:Act} {Q:Exit→Act→World→Prop} (hgd:o.guard=none) (x:Operand) (ho:o.op=.buildSlice 72 1 #[(0,x)]) (y:Bat) (q:Option Addr) (c:Nat) (hx:a.eval x=.agg (btA y q c))
  (h:wpList Tryz.prog ops Q rest (a.put o.dst (.slice (some ⟨w.heap.size,0,none⟩) 1 1)) (w.alloc (.cells (btA y q c) 85))):wpList Tryz.prog ops Q (o :: rest) a w:=by
 have hr:(Instr.buildSlice 72 1 #[(0,.agg (btA y q c))]).run Tryz.prog w=.ok (.slice (some ⟨w.heap.size,0,none⟩) 1 1) (w.alloc (.cells (btA y q c) 85)):=by kernel_rfl
 refine wpList_plain hgd fun K hK=>?_
 unfold Oper.wp execOp
 simp only [ho,Sem.run_bind,Sem.run_pure,Result.andThen_ok,List.map_toArray,List.map_cons,List.map_nil,hx,hr]
 exact hK _ _ h
structure NlI (w:World) (x:Bat) (p:Option Addr) (c:Nat) (n:Qm.St) (d:Value) (W:World):Prop where
 nd:NoD W d
 a3:BtAt W w.heap.size x p c
 a4:AgAt W (w.heap.size+1) (stA n)
 bel:Below w.heap.size w W
theorem NlI.kept {w W W':World} {x:Bat} {p:Option Addr} {c:Nat} {n:Qm.St} {d:Value} (h:NlI w x p c n d W) (hb:Below W.heap.size W W'):NlI w x p c n d W' :=
 ⟨h.nd.kept hb,AgAt.kept h.a3 hb,h.a4.kept hb,h.bel.trans (hb.mono h.bel.size)⟩
theorem docNil_walk (x:Bat) (p:Option Addr) (c:Nat) (n1 n2 pp:Int) (w:World) (h:Bops w x p c) :
  Calls Tryz.prog 5 #[.agg (btA x p c),.agg #[.int .i64 n1,.int .i64 n2],.int .i64 pp] w fun e w'=>e=.returned (.bool true)∧Below w.heap.size w w':=by
 have hb:=bel_alloc2 w (.cells (btA x p c) 85) (.cells (stA (n1,n2)) 35)
 have T:=Hi (show NlI w x p c (n1,n2) (.pointer none) ((w.alloc (.cells (btA x p c) 85)).alloc (.cells (stA (n1,n2)) 35)) from ⟨Or.inl rfl,AgAt.kept (AgAt.new w (btA x p c) 85) (bel_alloc _ _),by
  have:=AgAt.new (w.alloc (.cells (btA x p c) 85)) (stA (n1,n2)) 35
  rwa [World.size_alloc] at this,hb⟩)
 have HO:=Hi h
 clear h hb
 go_enter Tryz.func5,Tryz.ntmps5
 go_upto_region 1 with fail
 generalize (w.alloc (.cells (btA x p c) 85)).alloc (.cells (stA (n1,n2)) 35)=w0 at *
 have hba:=bel_alloc w0 (.cells (btA x p c) 85)
 have HLI:=Hi (light14_any (some ⟨w0.heap.size,0,none⟩) 1 [⟨x,p,c⟩] (w0.alloc (.cells (btA x p c) 85)) (by rw [beCells_sing]; exact rd_bt_one w0 ⟨x,p,c⟩ _) (fun e he=>by
  simp only [List.mem_cons,List.not_mem_nil,or_false] at he
  rw [he]
  exact (HO.out.kept T.out.bel).kept hba))
 have T0:=Hi T.out
 replace T:=Hi (T.out.kept hba)
 clear hba
 go_wp2_with (first | (refine wpList_load_ag btR (by kernel_rfl) _ rfl _ rfl (A:=btA x p c) rfl T0.out.a3 ?_) | (refine wpList_build_rb rfl _ rfl x p c rfl ?_))
 refine HLI.out.mono ?_
 rintro e1 w1 ⟨b1,rfl,hsm,hb1⟩
 clear T0
 replace T:=Hi (T.out.kept hb1)
 have HSM:=Hi hsm
 clear hsm hb1 HLI
 cases b1 with
 | false =>
  go_wp2_with fail
  refine (knows14_any _).mono ?_
  rintro e wk ⟨rfl,hbk⟩
  have HE:=Hi (T.out.bel.trans (hbk.mono T.out.bel.size))
  clear hbk T
  go_wp2
  go_ret
  exact ⟨rfl,HE.out⟩
 | true =>
  have HF:=Hi (HSM.out rfl)
  have HLT:=Hi (HF.out.mem (e:=⟨x,p,c⟩) (by simp))
  have HOW:=Hi (fun W (hW:Below w.heap.size w W)=>bown_any x p c W (HO.out.kept hW) (by have:=light_len HLT.out; dsimp only at this; omega) (fun y hy=>by have:=light_path HLT.out y hy; omega))
  clear HSM HF HLT
  go_wp2
  go_loopw [7,8] (fun d i wr=>∃ k:Nat,k≤2∧i=.int .i64 (k:Int)∧NlI w x p c (n1,n2) d wr) (fun _ i _=>2 - (intOf i).toNat)
  case atStart=>exact ⟨0,by omega,rfl,T.out⟩
  case round =>
   clear T
   obtain ⟨k,hk,rfl,ht⟩:=hrel
   have T:=Hi ht
   clear ht
   by_cases hlt:k<2
   ·have dd:decide ((k:Int)<2)=true:=decide_eq_true (by omega)
    go_wp2_with (refine wpList_load_ag btR (by kernel_rfl) _ rfl _ rfl (A:=btA x p c) rfl T.out.a3 ?_)
    refine (HOW.out _ T.out.bel).mono ?_
    rintro e wa ⟨p5,c5,rfl,-,hb⟩
    replace T:=Hi (T.out.kept hb)
    clear hb
    go_wp2_with fail
    refine (dapply_no _ x p5 c5 _ T.out.nd).mono ?_
    rintro e wb ⟨rfl,hb⟩
    replace T:=Hi (T.out.kept hb)
    clear hb
    go_wp2_with (refine wpList_load_ag stT (by kernel_rfl) _ rfl _ rfl (A:=stA (n1,n2)) rfl T.out.a4 ?_)
    refine (dspot_no _ (n1,n2) _ T.out.nd).mono ?_
    rintro e wc ⟨rfl,hb⟩
    replace T:=Hi (T.out.kept hb)
    clear hb
    go_upto_region 9 with (refine wpList_store_newag spT rfl _ _ rfl rfl _ (A:=spA zS) rfl rfl rfl (spA_one _) ?_; intro wd hv hb)
    replace T:=Hi (T.out.kept hb)
    have X1:=Hi hv
    clear hv hb
    generalize wc.heap.size=q1 at *
    go_wp2_with (refine wpList_load_ag stT (by kernel_rfl) _ rfl _ rfl (A:=stA (n1,n2)) rfl T.out.a4 ?_)
    refine (dref_no _ (n1,n2) _ T.out.nd).mono ?_
    rintro e we ⟨rfl,hb⟩
    replace T:=Hi (T.out.kept hb)
    replace X1:=Hi (X1.out.kept hb)
    clear hb
    go_upto_region 10 with (refine wpList_store_newag stT rfl _ _ rfl rfl _ (A:=#[.int .i64 0,.int .i64 0]) rfl rfl rfl (stA_one _ _) ?_; intro wf hv hb)
    replace T:=Hi (T.out.kept hb)
    replace X1:=Hi (X1.out.kept hb)
    have X2:=Hi hv
    clear hv hb
    generalize we.heap.size=q2 at *
    have hba:=bel_alloc wf (.cells (stA (n1,n2)) 35)
    have T1:=Hi (T.out.kept hba)
    replace X1:=Hi (X1.out.kept hba)
    replace X2:=Hi (X2.out.kept hba)
    clear hba
    go_wp2_with (first | (refine wpList_load_ag stT (by kernel_rfl) _ rfl _ rfl (A:=stA (n1,n2)) rfl T.out.a4 ?_) | (refine wpList_buildG rfl _ rfl (n1,n2) rfl ?_))
    refine (dover_no _ (n1,n2) (some ⟨wf.heap.size,0,none⟩) [(n1,n2)] 1 pp _ T1.out.nd).mono ?_
    rintro e wg ⟨rfl,hb⟩
    replace T:=Hi (T1.out.kept hb)
    replace X1:=Hi (X1.out.kept hb)
    replace X2:=Hi (X2.out.kept hb)
    clear hb T1
    go_upto_region 11 with (refine wpList_store_newag vA rfl _ _ rfl rfl _ (A:=vlA Pm.z0) rfl rfl rfl (vl_one _) ?_; intro wh hv hb)
    replace T:=Hi (T.out.kept hb)
    replace X1:=Hi (X1.out.kept hb)
    replace X2:=Hi (X2.out.kept hb)
    have X3:=Hi hv
    clear hv hb
    generalize wg.heap.size=q3 at *
    have hbd:=Below.drew (Below.refl wh.heap.size wh)
    replace T:=Hi (T.out.kept hbd)
    replace X1:=Hi (X1.out.kept hbd)
    replace X2:=Hi (X2.out.kept hbd)
    replace X3:=Hi (X3.out.kept hbd)
    clear hbd
    simp only [List.append]
    refine wp_region_held_drew (S:=fun W=>AgAt W q1 (spA zS)∧AgAt W q2 #[.int .i64 0,.int .i64 0]∧AgAt W q3 (vlA Pm.z0)∧AgAt W (w.heap.size+1) (stA (n1,n2))) (by kernel_rfl) ⟨X1.out,X2.out,X3.out,T.out.a4⟩ (fun hS=>?_)
    clear X1 X2 X3
    generalize wh.drew=wi at *
    refine tX 0 rfl hS ?_
    refine tX 1 rfl hS ?_
    refine tX 2 rfl hS ?_
    refine tX 3 rfl hS ?_
    go_simp
    refine rD 4 rfl (fun K hK=>?_)
    go_simp
    go_wp2_with ((go_at_call 37; refine (num14_any _ _).mono ?_; rintro e wn ⟨rfl,rfl⟩))
    refine hK.out _ _ hS (fun hS=>?_)
    clear hK K
    refine tX 5 rfl hS ?_
    refine tX 6 rfl hS ?_
    refine tX 7 rfl hS ?_
    go_simp
    refine tK 8 (v:=.agg (spA zS)) rfl (fun W hSW=>exec_load_ag spT rfl rfl rfl hSW.1) hS ?_
    go_simp
    refine tK 9 (v:=.agg (spA zS)) rfl (fun W hSW=>exec_build_spN rfl) hS ?_
    go_simp
    refine tK 10 (v:=.bool false) rfl (fun W hSW=>exec_neq_same rfl rfl rfl (fun w=>by kernel_rfl) (fun w=>by kernel_rfl)) hS ?_
    refine tX 11 rfl hS ?_
    refine tX 12 rfl hS ?_
    go_simp
    refine tK 13 (v:=.agg #[.int .i64 0,.int .i64 0]) rfl (fun W hSW=>exec_load_ag stT rfl rfl rfl hSW.2.1) hS ?_
    go_simp
    refine tK 14 (v:=.agg #[.int .i64 0,.int .i64 0]) rfl (fun W hSW=>exec_build_zD rfl) hS ?_
    go_simp
    refine tK 15 (v:=.bool false) rfl (fun W hSW=>exec_neq_stH rfl (0,0) (0,0) rfl rfl (decide_eq_true rfl)) hS ?_
    refine tX 16 rfl hS ?_
    refine tX 17 rfl hS ?_
    go_simp
    refine tK 18 (v:=.agg (vlA Pm.z0)) rfl (fun W hSW=>exec_load_ag vA rfl rfl rfl hSW.2.2.1) hS ?_
    refine tX 19 rfl hS ?_
    go_simp
    refine tK 20 (v:=.agg (stA (n1,n2))) rfl (fun W hSW=>exec_load_ag stT rfl rfl rfl hSW.2.2.2) hS ?_
    refine tX 21 rfl hS ?_
    go_simp
    refine rD 22 rfl (fun K hK=>?_)
    go_simp
    go_wp2_with ((go_at_call 54; refine (dvalue_no _ (n1,n2) pp _ T.out.nd).mono ?_; rintro e wn ⟨rfl,hb⟩))
    replace T:=Hi (T.out.kept hb)
    refine hK.out _ _ ⟨hS.1.kept hb,hS.2.1.kept hb,hS.2.2.1.kept hb,hS.2.2.2.kept hb⟩ (fun hS=>?_)
    clear hK K hb
    refine tK 23 (v:=.bool false) rfl (fun W hSW=>exec_neq_same rfl rfl rfl (fun w=>by kernel_rfl) (fun w=>by kernel_rfl)) hS ?_
    refine tX 24 rfl hS ?_
    refine tX 25 rfl hS ?_
    go_simp
    refine tK 26 (v:=.agg (vlA Pm.z0)) rfl (fun W hSW=>exec_load_ag vA rfl rfl rfl hSW.2.2.1) hS ?_
    go_simp
    refine tK 27 (v:=.agg (vlA Pm.z0)) rfl (fun W hSW=>exec_build_vlN rfl) hS ?_
    go_simp
    refine tK 28 (v:=.bool false) rfl (fun W hSW=>exec_neq_same rfl rfl rfl (fun w=>by kernel_rfl) (fun w=>by kernel_rfl)) hS ?_
    refine tX 29 rfl hS ?_
    refine tX 30 rfl hS ?_
    refine tX 31 rfl hS ?_
    go_simp
    refine tX 32 rfl hS ?_
    refine tX 33 rfl hS ?_
    refine tX 34 rfl hS ?_
    refine tX 35 rfl hS ?_
    go_simp
    refine tX 36 rfl hS ?_
    refine tX 37 rfl hS ?_
    refine tX 38 rfl hS ?_
    refine tX 39 rfl hS ?_
    go_simp
    refine tX 40 rfl hS ?_
    go_simp
    refine rD 41 rfl (fun K hK=>?_)
    go_simp
    go_wp2_with ((go_at_call 46; refine (dlog_no _ _ T.out.nd).mono ?_; rintro e wn ⟨rfl,hb⟩))
    replace T:=Hi (T.out.kept hb)
    refine hK.out _ _ ⟨hS.1.kept hb,hS.2.1.kept hb,hS.2.2.1.kept hb,hS.2.2.2.kept hb⟩ (fun hS=>?_)
    clear hK K hb
    refine tX 42 rfl hS ?_
    refine tX 43 rfl hS ?_
    refine tX 44 rfl hS ?_
    refine tX 45 rfl hS ?_
    go_simp
    refine tK 47 (v:=.agg #[.int .i64 0,.int .i64 0,.int .i64 0,.int .i64 0,.int .i64 0,.int .i64 0,.int .i64 0,.int .i64 0,.int .i64 0,.int .i64 0,.int .i64 0,.int .i64 0,.int .i64 0,.int .i64 0,.int .i64 0,.int .i64 0]) rfl (fun W hSW=>exec_build_zv rfl) hS ?_
    go_simp
    refine rD 46 rfl (fun K hK=>?_)
    go_simp
    go_wp2_with ((go_at_call 42; refine (dvector_no _ _ T.out.nd).mono ?_; rintro e wn ⟨rfl,hb⟩))
    rw [zv_eq]
    replace T:=Hi (T.out.kept hb)
    refine hK.out _ _ ⟨hS.1.kept hb,hS.2.1.kept hb,hS.2.2.1.kept hb,hS.2.2.2.kept hb⟩ (fun hS=>?_)
    clear hK K hb
    refine tK 48 (v:=.bool false) rfl (fun W hSW=>exec_neq_same rfl rfl rfl (fun w=>by kernel_rfl) (fun w=>by kernel_rfl)) hS ?_
    refine tX 49 rfl hS ?_
    refine tX 50 rfl hS ?_
    refine tX 51 rfl hS ?_
    go_simp
    refine tX 53 rfl hS ?_
    refine tX 57 rfl hS ?_
    go_simp
    refine tK 58 (v:=.agg (stA (n1,n2))) rfl (fun W hSW=>exec_load_ag stT rfl rfl rfl hSW.2.2.2) hS ?_
    refine tX 62 rfl hS ?_
    go_simp
    refine tK 63 (v:=.agg (stA (n1,n2))) rfl (fun W hSW=>exec_load_ag stT rfl rfl rfl hSW.2.2.2) hS ?_
    go_simp
    refine rD 52 rfl (fun K hK=>?_)
    go_simp
    go_wp2_with ((go_at_call 44; refine (dtime_no _ _ T.out.nd).mono ?_; rintro e wn ⟨rfl,hb⟩))
    replace T:=Hi (T.out.kept hb)
    refine hK.out _ _ ⟨hS.1.kept hb,hS.2.1.kept hb,hS.2.2.1.kept hb,hS.2.2.2.kept hb⟩ (fun hS=>?_)
    clear hK K hb
    refine rD 54 rfl (fun K hK=>?_)
    go_simp
    go_wp2_with ((go_at_call 55; refine (dnodes_no _ _ T.out.nd).mono ?_; rintro e wn ⟨rfl,hb⟩))
    replace T:=Hi (T.out.kept hb)
    refine hK.out _ _ ⟨hS.1.kept hb,hS.2.1.kept hb,hS.2.2.1.kept hb,hS.2.2.2.kept hb⟩ (fun hS=>?_)
    clear hK K hb
    refine tX 55 rfl hS ?_
    refine tX 56 rfl hS ?_
    go_simp
    refine rD 59 rfl (fun K hK=>?_)
    go_simp
    go_wp2_with ((go_at_call 56; refine (drow_no _ (n1,n2) _ T.out.nd).mono ?_; rintro e wn ⟨rfl,hb⟩))
    replace T:=Hi (T.out.kept hb)
    refine hK.out _ _ ⟨hS.1.kept hb,hS.2.1.kept hb,hS.2.2.1.kept hb,hS.2.2.2.kept hb⟩ (fun hS=>?_)
    clear hK K hb
    refine tX 60 rfl hS ?_
    refine tX 61 rfl hS ?_
    go_simp
    refine rD 64 rfl (fun K hK=>?_)
    go_simp
    go_wp2_with ((go_at_call 57; refine (dabove_no _ (n1,n2) _ T.out.nd).mono ?_; rintro e wn ⟨rfl,hb⟩))
    replace T:=Hi (T.out.kept hb)
    refine hK.out _ _ ⟨hS.1.kept hb,hS.2.1.kept hb,hS.2.2.1.kept hb,hS.2.2.2.kept hb⟩ (fun hS=>?_)
    clear hK K hb
    refine tX 65 rfl hS ?_
    refine tX 66 rfl hS ?_
    refine tX 67 rfl hS ?_
    refine tX 68 rfl hS ?_
    go_simp
    refine wpAnyH_done (by kernel_rfl) ?_ _
    go_simp
    clear hS
    go_wp2_with (refine wpList_load_ag stT (by kernel_rfl) _ rfl _ rfl (A:=stA (n1,n2)) rfl T.out.a4 ?_)
    refine (dhas_no _ (n1,n2) _ T.out.nd).mono ?_
    rintro e wj1 ⟨rfl,hb⟩
    replace T:=Hi (T.out.kept hb)
    clear hb
    go_wp2_with (refine wpList_load_ag stT (by kernel_rfl) _ rfl _ rfl (A:=stA (n1,n2)) rfl T.out.a4 ?_)
    refine (dmarked_no _ (n1,n2) _ T.out.nd).mono ?_
    rintro e wj2 ⟨rfl,hb⟩
    replace T:=Hi (T.out.kept hb)
    clear hb
    go_wp2_with (refine wpList_load_ag stT (by kernel_rfl) _ rfl _ rfl (A:=stA (n1,n2)) rfl T.out.a4 ?_)
    refine (dlocked_no _ (n1,n2) _ T.out.nd).mono ?_
    rintro e wj3 ⟨rfl,hb⟩
    replace T:=Hi (T.out.kept hb)
    clear hb
    go_wp2_with (refine wpList_load_ag stT (by kernel_rfl) _ rfl _ rfl (A:=stA (n1,n2)) rfl T.out.a4 ?_)
    refine (dalive_no _ (n1,n2) _ T.out.nd).mono ?_
    rintro e wj4 ⟨rfl,hb⟩
    replace T:=Hi (T.out.kept hb)
    clear hb
    go_wp2_with (refine wpList_load_ag stT (by kernel_rfl) _ rfl _ rfl (A:=stA (n1,n2)) rfl T.out.a4 ?_)
    refine (dreach_no _ (n1,n2) (n1,n2) true _ T.out.nd).mono ?_
    rintro e wj5 ⟨rfl,hb⟩
    replace T:=Hi (T.out.kept hb)
    clear hb
    go_wp2_with fail
    refine (dsame_no _ _ (.pointer none) (.pointer none) (.pointer none) n3_one _ T.out.nd (fun W hW=>nown_any _ W (T.out.nd.kept hW))).mono ?_
    rintro e wj6 ⟨rfl,hb⟩
    replace T:=Hi (T.out.kept hb)
    clear hb
    go_wp2_with fail
    refine (dnew_any _).mono ?_
    rintro e wk ⟨dn,dl,dg,dp,cn,rfl,hdn,hb,-⟩
    replace T:=Hi (T.out.kept hb)
    have HDN:=Hi hdn
    clear hb hdn
    go_wp2_with fail
    refine (dsame_no _ (ptV dn) (ptV dl) (ptV dg) (ptV dp) ptA_one _ T.out.nd (fun W hW=>down_any W (HDN.out.box.kept hW))).mono ?_
    rintro e wj7 ⟨rfl,hb⟩
    replace T:=Hi (T.out.kept hb)
    clear hb
    go_wp2_with fail
    refine (dclone_no _ _ T.out.nd).mono ?_
    rintro e wj8 ⟨rfl,hb⟩
    replace T:=Hi (T.out.kept hb)
    clear hb
    have hzd:∀ W,(Instr.build 122 #[]).run Tryz.prog W=.ok (.agg n3) W:=fun W=>by kernel_rfl
    have HE:=Hi (show NlI w x p c (n1,n2) (ptV wj8.heap.size) (wj8.alloc (.cells n3 122)) from ⟨Or.inr ⟨_,rfl,AgAt.new wj8 n3 122⟩,(T.out.kept (bel_alloc _ _)).a3,(T.out.kept (bel_alloc _ _)).a4,(T.out.kept (bel_alloc _ _)).bel⟩)
    clear T HDN
    go_wp2
    go_roundw
    case rel=>exact ⟨k+1,by omega,by go_num,HE.out⟩
    case measure=>simp [intOf]; omega
   ·obtain rfl:k=2:=by omega
    have dd:decide (((2:Nat):Int)<2)=false:=by decide
    go_wp2_with fail
    refine (knows14_any _).mono ?_
    rintro e wk ⟨rfl,hbk⟩
    have HE:=Hi (T.out.bel.trans (hbk.mono T.out.bel.size))
    clear hbk T
    go_wp2
    go_ret
    exact ⟨rfl,HE.out⟩
end Go.Proofs.YthfhefdfehlbkaaGreat

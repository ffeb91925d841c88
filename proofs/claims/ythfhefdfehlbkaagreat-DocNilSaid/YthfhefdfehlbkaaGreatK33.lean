/-
  GRAPHNORING, plainly: what each node's steps say.
  No conditions.
  What the law's knows asks for, plainly: four ops, what they make of it.
  No conditions.
  A DOCUMENT's TREE, plainly: what is so of each node; all rows together; what the law's knows asks for.
  No conditions.
  THE LAW's helpers: num, knows.
  No conditions.
-/
import Derived.Test.YthfhefdfehlbkaaGreatSh
import Derived.Test.YthfhefdfehlbkaaGreatK29
import Derived.Test.YthfhefdfehlbkaaGreatK31
import Derived.Test.YthfhefdfehlbkaaGreatK23
import Derived.Test.YthfhefdfehlbkaaGreatK27
import Derived.Test.YthfhefdfehlbkaaGreatK32
set_option maxRecDepth 100000
set_option maxHeartbeats 8000000
namespace Go.Proofs.YthfhefdfehlbkaaGreat
open Go.RowKit
open Tm (Sp Tr has put cut kids)
structure ChainN (l:List Qm.St) (s:Sp) (n:Nat):Prop where
 pos:0<l.length
 le:l.length≤n
 first:l[0]?=some s.1
 last:l[l.length - 1]?=some (0,0)∨l[l.length - 1]?=some (0,1)
theorem TreeG.len {ops:List Pm.Wr} {T U:Tr} (h:TreeG ops T) (k:TreeG ops U):T.length=U.length:=(alikeT_of h.ok.nd k.ok.nd fun n=>(h.lk n).trans (k.lk n).symm).1
theorem TreeG.chain {ops:List Pm.Wr} {T U:Tr} {m:List Qm.St} (h:TreeG ops T) (k:TreeG ops U) (hm:m.Perm (T.map Prod.fst)) {n:Qm.St} {s:Sp} (hs:(Gm.run ops).s n=some s):ChainN (Tm.chain U n) s m.length:=by
 have hl:Tm.look U n=some s:=(k.lk n).trans hs
 have hu:=k.ok.chain n
 have hml:m.length=U.length:=by rw [hm.length_eq,List.length_map]; exact h.len k
 generalize Tm.chain U n=l at *
 have h1:=Tm.up_len hu
 cases hu with
 | stop h2=>rw [hl] at h2; cases h2
 | step h2 h3 =>
  next s' l' =>
  rw [hl] at h2
  cases h2
  have h4:=Tm.up_last (.step hl h3) (by simp) k.ok.par
  refine ⟨by simp,by rw [hml]; exact h1,rfl,?_⟩
  rw [List.getLast_eq_getElem] at h4
  rw [List.getElem?_eq_getElem (by simp)]
  rcases Tm.top_iff.1 h4 with h5 | h5
  ·exact Or.inl (by rw [h5])
  ·exact Or.inr (by rw [h5])
theorem TreeG.node {ops:List Pm.Wr} {T:Tr} {m:List Qm.St} (h:TreeG ops T) (hm:m.Perm (T.map Prod.fst)) {n:Qm.St} (hn:n ∈ m):∃ s,(Gm.run ops).s n=some s:=by
 obtain ⟨e,he,rfl⟩:=List.mem_map.1 (hm.mem_iff.1 hn)
 exact ⟨e.2,by rw [← h.lk]; exact Tm.look_some h.ok.nd he⟩
end Go.Proofs.YthfhefdfehlbkaaGreat
namespace Go.Proofs.YthfhefdfehlbkaaGreat.Gm
open Go.Proofs.YthfhefdfehlbkaaGreat
def kx1:Pm.Wr:=⟨(1,0),⟨1,0,0,0,0,⟨#[97]⟩,[],0,0,0,⟨#[]⟩,false⟩⟩
def kg1:G:=⟨upd nil.s (1,0) (some ((0,0),⟨#[97]⟩)),nil.m⟩
theorem k_try1:tryG nil kx1=some kg1:=by
 unfold tryG
 rw [if_pos (show kx1.x.k=1 from rfl),if_pos (has_top (show Tm.top (ref kx1.x)=true from top_root))]
 rfl
end Go.Proofs.YthfhefdfehlbkaaGreat.Gm
namespace Go.Proofs.YthfhefdfehlbkaaGreat
open Go.RowKit
open Tm (Sp Tr has put cut kids)
structure NodeN (g:Gm.G) (n:Qm.St) (s:Sp):Prop where
 at_:g.s n=some s
 wn:StWf n
 wp:StWf s.1
 hp:Gm.has g s.1=true
theorem Gm.Good.nodeN {g:Gm.G} (h:Gm.Good g) {n:Qm.St} {s:Sp} (hs:g.s n=some s):NodeN g n s :=
 ⟨hs,okN_wf (h.node n s hs).1,(rightSp_wf (h.node n s hs).2.1).1,(h.node n s hs).2.2⟩
theorem TreeG.rowLen {ops:List Pm.Wr} {T V:Tr} (h:TreeG ops T) (k:TreeG ops V) {p:Qm.St} {m:List Sbm.Sib} (hm:m.Perm (Rtm.sibs V p)):m.length=(kids T p).length:=by
 have h1:(Rtm.sibs V p).length=(kids V p).length:=by unfold Rtm.sibs kids; rw [List.length_map,List.length_map]
 rw [hm.length_eq,h1]
 refine ((List.perm_ext_iff_of_nodup (Tm.kids_nodup k.ok.nd p) (Tm.kids_nodup h.ok.nd p)).2 fun n=>?_).length_eq
 have hl:∀ {U:Tr},TreeG ops U→(n ∈ kids U p ↔ ∃ s,(Gm.run ops).s n=some s∧s.1=p):=fun {U} hu=>by
  rw [Tm.kids_mem]
  constructor
  ·rintro ⟨s,hs,hp⟩
   exact ⟨s,by rw [← hu.lk]; exact Tm.look_some hu.ok.nd hs,hp⟩
  ·rintro ⟨s,hs,hp⟩
   rw [← hu.lk] at hs
   exact ⟨s,Tm.look_mem hs,hp⟩
 rw [hl k,hl h]
theorem up_same {T U:Tr} (h:∀ n,Tm.look T n=Tm.look U n) {n:Qm.St} {l:List Qm.St} (hu:Tm.Up U n l):Tm.Up T n l:=by
 induction hu with
 | stop e=>exact .stop ((h _).trans e)
 | step e _ ih=>exact .step ((h _).trans e) ih
theorem TreeG.chainEq {ops:List Pm.Wr} {T U:Tr} (h:TreeG ops T) (k:TreeG ops U) (n:Qm.St):Tm.chain T n=Tm.chain U n:=h.ok.chainEq (up_same (fun n=>(h.lk n).trans (k.lk n).symm) (k.ok.chain n))
def totR (T:Tr) (m:List Qm.St) (k:Nat):Nat:=(kids T (0,0)).length+(kids T (0,1)).length+((m.take k).map fun p=>(kids T p).length).sum
theorem totR_step {T:Tr} {m:List Qm.St} {k:Nat} {n:Qm.St} (h:m[k]?=some n):totR T m (k+1)=totR T m k+(kids T n).length:=by
 unfold totR
 rw [List.take_add_one,h,List.map_append,List.sum_append]
 simp
 omega
theorem totR_all {ops:List Pm.Wr} {T:Tr} {m:List Qm.St} (h:TreeG ops T) (hm:m.Perm (T.map Prod.fst)):totR T m m.length=m.length:=by
 have h1:=Tm.sum_below (T:=T) (h.ok.placesNd hm) fun e he=>by
  have h2:=h.ok.places e he
  rcases List.mem_append.1 h2 with h3 | h3
  ·exact List.mem_append_left _ (hm.mem_iff.2 h3)
  ·exact List.mem_append_right _ h3
 unfold totR
 rw [List.take_length]
 rw [List.map_append,List.sum_append] at h1
 have h4:m.length=T.length:=by rw [hm.length_eq,List.length_map]
 simp only [List.map_cons,List.map_nil,List.sum_cons,List.sum_nil] at h1
 omega
theorem totR_le {ops:List Pm.Wr} {T:Tr} {m:List Qm.St} (h:TreeG ops T) (hm:m.Perm (T.map Prod.fst)) (k:Nat):totR T m k≤m.length:=by
 rw [← totR_all h hm]
 have h1:∀ (l:List Nat) (k:Nat),(l.take k).sum≤l.sum:=fun l k=>by
  conv=>rhs; rw [← List.take_append_drop k l]
  rw [List.sum_append]
  omega
 have h2:=h1 (m.map fun p=>(kids T p).length) k
 unfold totR
 rw [List.take_length]
 rw [← List.map_take] at h2
 omega
def dkO1:Opp:={ Opp.zero with k:=1,key:=⟨#[97]⟩ }
def dkO2:Opp:={ Opp.zero with k:=3,nt:=1,p:=1,vk:=4,vn:=1 }
def dkB:Bat:=⟨0,1,1,[dkO1,dkO2]⟩
theorem dk_add:(addL Lg.zero dkB).2.1=[dkB]∧(addL Lg.zero dkB).2.2=0:=⟨rfl,rfl⟩
def dkL:Lg:=(addL Lg.zero dkB).1
def dkW:List Pm.Wr:=addW Lg.zero [] dkB
theorem dk_vec:vecA (vecL9 dkL)=#[.int .i64 1,.int .i64 0,.int .i64 0,.int .i64 0,.int .i64 0,.int .i64 0,.int .i64 0,.int .i64 0,.int .i64 0,.int .i64 0,.int .i64 0,.int .i64 0,.int .i64 0,.int .i64 0,.int .i64 0,.int .i64 0]:=rfl
theorem dk_time:(tmS dkL 16).1=2:=by decide
theorem dk_ws:dkW=[⟨(1,0),dkO1⟩,⟨(2,0),dkO2⟩]:=rfl
theorem dk_ops:Gm.insAll dkW=[Gm.kx1]:=by rw [dk_ws]; rfl
theorem dk_flag:((Pm.allR dkW).v (Pm.nameV (1,0) 1)).2=(4,1,⟨#[]⟩):=by rw [dk_ws]; rfl
theorem dk_run:Gm.run (Gm.insAll dkW)=Gm.kg1:=by
 rw [dk_ops]
 show Gm.aft Gm.nil Gm.kx1=Gm.kg1
 unfold Gm.aft
 rw [Gm.k_try1]
 rfl
theorem dk_s:(Gm.run (Gm.insAll dkW)).s (1,0)=some ((0,0),⟨#[97]⟩):=by rw [dk_run]; rfl
theorem dk_only {x:Qm.St} {v:Sp} (h:(Gm.run (Gm.insAll dkW)).s x=some v):x=(1,0):=by
 rw [dk_run] at h
 unfold Gm.kg1 at h
 dsimp only at h
 by_cases e:x=(1,0)
 ·exact e
 ·rw [Gm.upd_ne e] at h; cases h
theorem dk_nodes {T:Tr} {m:List Qm.St} (h:TreeG (Gm.insAll dkW) T) (hm:m.Perm (T.map Prod.fst)):m=[(1,0)]:=by
 have h1:∀ x ∈ m,x=(1,0):=fun x hx=>by
  obtain ⟨s,hs⟩:=h.node hm hx
  exact dk_only hs
 have h2:((1,0):Qm.St) ∈ m:=by
  have h3:=h.lk (1,0)
  rw [dk_s] at h3
  exact hm.mem_iff.2 (List.mem_map.2 ⟨_,Tm.look_mem h3,rfl⟩)
 have h4:m.Nodup:=hm.nodup_iff.2 h.ok.nd
 match m,h1,h2,h4 with
 | [],_,h2,_=>cases h2
 | [a],h1,_,_=>rw [h1 a (by simp)]
 | a :: b :: t,h1,_,h4 =>
  have e1:=h1 a (by simp)
  have e2:=h1 b (by simp)
  rw [e1,e2] at h4
  simp at h4
theorem dk_alive {T:Tr} (h:TreeG (Gm.insAll dkW) T):decide ((Tm.chain T (1,0)).getLast?=some (0,0))=true:=by
 have h1:=h.chain h (List.Perm.refl _) dk_s
 have h2:=dk_nodes h (List.Perm.refl _)
 have h3:(T.map Prod.fst).length=1:=by rw [h2]; rfl
 rw [h3] at h1
 have h4:(Tm.chain T (1,0)).length=1:=by have:=h1.pos; have:=h1.le; omega
 rw [decide_eq_true_iff,List.getLast?_eq_getElem?,h4]
 exact h1.first
open Go.RowKit
open Tm (Sp Tr)
theorem num14_any (n:Int) (w:World):Calls Tryz.prog 37 #[.int .i64 n] w fun e w'=>e=.returned (.int .i64 n)∧w=w':=by
 go_enter Tryz.func37,Tryz.ntmps37
 go_wp2
 go_ret
 exact ⟨rfl,rfl⟩
theorem exec_eql_dk {c:Act} {o:Oper} {x y:Operand} {ty:TypeId} (ho:o.op=.binOp .eql 93 x y ty) {w:World} (hx:c.eval x=.agg #[.int .i64 1,.int .i64 0,.int .i64 0,.int .i64 0,.int .i64 0,.int .i64 0,.int .i64 0,.int .i64 0,.int .i64 0,.int .i64 0,.int .i64 0,.int .i64 0,.int .i64 0,.int .i64 0,.int .i64 0,.int .i64 0]) (hy:c.eval y=.agg #[.int .i64 1,.int .i64 0,.int .i64 0,.int .i64 0,.int .i64 0,.int .i64 0,.int .i64 0,.int .i64 0,.int .i64 0,.int .i64 0,.int .i64 0,.int .i64 0,.int .i64 0,.int .i64 0,.int .i64 0,.int .i64 0]):(execOp c.eval o).run Tryz.prog w=.ok (.value (.bool true)) w:=by
 have hr:Sem.run Tryz.prog (Op.equalIn 10000 93 (.agg #[.int .i64 1,.int .i64 0,.int .i64 0,.int .i64 0,.int .i64 0,.int .i64 0,.int .i64 0,.int .i64 0,.int .i64 0,.int .i64 0,.int .i64 0,.int .i64 0,.int .i64 0,.int .i64 0,.int .i64 0,.int .i64 0]) (.agg #[.int .i64 1,.int .i64 0,.int .i64 0,.int .i64 0,.int .i64 0,.int .i64 0,.int .i64 0,.int .i64 0,.int .i64 0,.int .i64 0,.int .i64 0,.int .i64 0,.int .i64 0,.int .i64 0,.int .i64 0,.int .i64 0])) w=.ok true w:=by kernel_rfl
 unfold execOp
 simp only [ho,hx,hy]
 go_simp
theorem exec_build_dk {o:Oper} {a:Act} {w:World} (ho:o.op=.build 93 #[(0,.const (.int .i64 1))]):(execOp a.eval o).run Tryz.prog w=.ok (.value (.agg #[.int .i64 1,.int .i64 0,.int .i64 0,.int .i64 0,.int .i64 0,.int .i64 0,.int .i64 0,.int .i64 0,.int .i64 0,.int .i64 0,.int .i64 0,.int .i64 0,.int .i64 0,.int .i64 0,.int .i64 0,.int .i64 0])) w:=by
 have hr:(Instr.build 93 #[(0,.int .i64 1)]).run Tryz.prog w=.ok (.agg #[.int .i64 1,.int .i64 0,.int .i64 0,.int .i64 0,.int .i64 0,.int .i64 0,.int .i64 0,.int .i64 0,.int .i64 0,.int .i64 0,.int .i64 0,.int .i64 0,.int .i64 0,.int .i64 0,.int .i64 0,.int .i64 0]) w:=by kernel_rfl
 have he:a.eval (.const (.int .i64 1))=.int .i64 1:=rfl
 unfold execOp
 simp only [ho,Sem.run_bind,Sem.run_pure,Result.andThen_ok,List.map_toArray,List.map_cons,List.map_nil,he,hr]
theorem dk_os (w:World) (T:TypeId):Os (w.alloc (.cells (opL dkO1 none 0 ++ opL dkO2 none 0).toArray T)) (some ⟨w.heap.size,0,none⟩) 2 [⟨dkO1,none,0⟩,⟨dkO2,none,0⟩] [dkO1,dkO2] :=
 ⟨rfl,fun _=>⟨_,0,rfl,fun i u hu=>by rw [Nat.zero_add,World.cell?_alloc_at _ _ _ _ rfl,← hu]; simp [enCells]⟩,fun e he=>by
  simp only [List.mem_cons,List.not_mem_nil,or_false] at he
  rcases he with rfl | rfl
  ·exact Pa.none _ _ rfl
  ·exact Pa.none _ _ rfl,fun h=>(by cases h),by simp⟩
theorem dk_szs:Szs dkB.ops:=⟨fun x hx=>by
 simp only [dkB,List.mem_cons,List.not_mem_nil,or_false] at hx
 rcases hx with rfl | rfl <;> exact ⟨by decide,by decide,by decide⟩,by decide⟩
theorem dk_cp:CpSz dkB:=⟨by decide,fun y hy=>by
 simp only [dkB,List.mem_cons,List.not_mem_nil,or_false] at hy
 rcases hy with rfl | rfl <;> decide⟩
theorem wf10:StWf ((1:Int),(0:Int)):=⟨by decide,by decide⟩
theorem knows14_any (w:World):Calls Tryz.prog 30 #[] w fun e w'=>e=.returned (.bool true)∧Below w.heap.size w w':=by
 go_enter Tryz.func30,Tryz.ntmps30
 go_upto_region 2 with (refine wpList_store_newag stT rfl _ _ rfl rfl _ (A:=#[.int .i64 1,.int .i64 0]) rfl rfl rfl (stA_one _ _) ?_; intro w1 hv1 hb1)
 have HB:=Hi hb1
 have HV:=Hi hv1
 obtain ⟨b1,hb⟩:∃ b,b=w.heap.size:=⟨_,rfl⟩
 rw [← hb] at HV ⊢
 clear hb1 hv1 hb
 go_wp2_with fail
 refine (dnew_any w1).mono ?_
 rintro e w2 ⟨d,dl,gg,P,c,rfl,hd,hb2,hf⟩
 have HG:=Hi (DH.made (bs:=[(b1,#[.int .i64 1,.int .i64 0])]) HB.out (fun e he=>by simp only [List.mem_cons,List.not_mem_nil,or_false] at he; rw [he]; exact HV.out) hd hb2 hf)
 clear hd hb2 hf HB HV
 have HA:=Hi (show Calls Tryz.prog 34 #[ptV d,.agg (btA dkB (some ⟨w2.heap.size,0,none⟩) 2)] (w2.alloc (.cells (opL dkO1 none 0 ++ opL dkO2 none 0).toArray 43)) fun e w'=>e=.returned (.tuple #[.int .i64 1,.int .i64 0])∧DH w d (dkL,dkW) [(b1,#[.int .i64 1,.int .i64 0])] [] w' from by
  have h1:=(HG.out.kept ((Below.refl _ _).alloc (Nat.le_refl _) (.cells (opL dkO1 none 0 ++ opL dkO2 none 0).toArray 43))).apply dkB (some ⟨w2.heap.size,0,none⟩) 2 DocOk.zero dk_szs dk_cp ⟨_,dk_os w2 43⟩ (by decide)
  refine h1.mono ?_
  rintro e w' ⟨rfl,h2⟩
  refine ⟨?_,h2⟩
  rw [dk_add.1,dk_add.2]
  rfl)
 go_wp2_with (refine wpList_load_ag stT (by kernel_rfl) _ rfl _ rfl (A:=#[.int .i64 1,.int .i64 0]) rfl (HG.out.at_ (by simp)) ?_)
 refine HA.out.mono ?_
 rintro e w3 ⟨rfl,hg⟩
 replace HG:=Hi hg
 clear hg HA
 go_wp2_with fail
 refine (DH.nodes HG.out).mono ?_
 rintro e w4 ⟨p,cp,m,T,rfl,ht,hm,hg⟩
 obtain rfl:=dk_nodes ht hm
 replace HG:=Hi hg
 clear hg ht hm
 obtain ⟨bp,op_,hbp,-⟩:=(HG.out.rd (p:=p) (cs:=stCells [(1,0)]) (by simp)).addr (by decide)
 subst hbp
 rw [show List.length [((1:Int),(0:Int))]=1 from rfl]
 go_upto_region 5 with fail
 replace HG:=Hi (HG.out.kept (Below.drew (Below.refl w4.heap.size w4)))
 refine wp_region_held_drew (S:=fun W=>AgAt W b1 #[.int .i64 1,.int .i64 0]∧Rd W (some ⟨bp,op_,none⟩) (stCells [(1,0)])) (by kernel_rfl) ⟨HG.out.at_ (by simp),HG.out.rd (by simp)⟩ (fun hS=>?_)
 generalize w4.drew=wd at *
 refine tX 0 rfl hS ?_
 go_simp
 refine rD 1 rfl (fun K hK=>?_)
 go_simp
 go_wp2_with ((go_at_call 37; refine (num14_any _ _).mono ?_; rintro e wn ⟨rfl,rfl⟩))
 refine hK.out _ _ hS (fun hS=>?_)
 clear hK K
 refine tX 2 rfl hS ?_
 refine tX 3 rfl hS ?_
 refine tX 4 rfl hS ?_
 refine tX 5 rfl hS ?_
 go_simp
 refine tX 6 rfl hS ?_
 refine tX 7 rfl hS ?_
 refine tX 8 rfl hS ?_
 refine tX 9 rfl hS ?_
 go_simp
 refine tX 10 rfl hS ?_
 refine tX 11 rfl hS ?_
 refine tX 12 rfl hS ?_
 refine tX 13 rfl hS ?_
 go_simp
 refine tX 14 rfl hS ?_
 go_simp
 refine tK 15 (v:=.agg #[.int .i64 1,.int .i64 0]) rfl (fun W hSW=>exec_load_stH0 rfl rfl hSW.2 rfl) hS ?_
 go_simp
 refine tK 16 (v:=.agg #[.int .i64 1,.int .i64 0]) rfl (fun W hSW=>exec_load_ag stT rfl rfl rfl hSW.1) hS ?_
 go_simp
 refine tK 17 (v:=.bool true) rfl (fun W hSW=>exec_eql_stD rfl (1,0) (1,0) rfl rfl (decide_eq_true rfl)) hS ?_
 refine tX 18 rfl hS ?_
 refine tX 19 rfl hS ?_
 refine tX 20 rfl hS ?_
 go_simp
 refine tK 21 (v:=.agg #[.int .i64 1,.int .i64 0]) rfl (fun W hSW=>exec_load_ag stT rfl rfl rfl hSW.1) hS ?_
 go_simp
 refine rD 22 rfl (fun K hK=>?_)
 go_simp
 go_wp2_with ((go_at_call 60; refine (DH.lockedSelf 1 0 HG.out wf10 dk_s dk_flag).mono ?_; rintro e wn ⟨rfl,hg⟩))
 replace HG:=Hi hg
 refine hK.out _ _ ⟨HG.out.at_ (by simp),HG.out.rd (by simp)⟩ (fun hS=>?_)
 clear hK K hg
 refine tX 23 rfl hS ?_
 refine tX 24 rfl hS ?_
 refine tX 25 rfl hS ?_
 go_simp
 refine tK 26 (v:=.agg #[.int .i64 1,.int .i64 0]) rfl (fun W hSW=>exec_load_ag stT rfl rfl rfl hSW.1) hS ?_
 go_simp
 refine rD 27 rfl (fun K hK=>?_)
 go_simp
 go_wp2_with ((go_at_call 61; refine (DH.alive 1 0 HG.out wf10).mono ?_; rintro e wn ⟨T2,ht2,rfl,hg⟩))
 have hal:=dk_alive ht2
 rw [hal]
 clear hal ht2
 replace HG:=Hi hg
 refine hK.out _ _ ⟨HG.out.at_ (by simp),HG.out.rd (by simp)⟩ (fun hS=>?_)
 clear hK K hg
 refine tX 28 rfl hS ?_
 refine tX 29 rfl hS ?_
 refine tX 30 rfl hS ?_
 go_simp
 refine tK 32 (v:=.agg #[.int .i64 1,.int .i64 0,.int .i64 0,.int .i64 0,.int .i64 0,.int .i64 0,.int .i64 0,.int .i64 0,.int .i64 0,.int .i64 0,.int .i64 0,.int .i64 0,.int .i64 0,.int .i64 0,.int .i64 0,.int .i64 0]) rfl (fun W hSW=>exec_build_dk rfl) hS ?_
 go_simp
 refine rD 31 rfl (fun K hK=>?_)
 go_simp
 go_wp2_with ((go_at_call 42; refine (DH.vector HG.out).mono ?_; rintro e wn ⟨rfl,hg⟩))
 rw [dk_vec]
 replace HG:=Hi hg
 refine hK.out _ _ ⟨HG.out.at_ (by simp),HG.out.rd (by simp)⟩ (fun hS=>?_)
 clear hK K hg
 refine tK 33 (v:=.bool true) rfl (fun W hSW=>exec_eql_dk rfl rfl rfl) hS ?_
 refine tX 34 rfl hS ?_
 refine tX 35 rfl hS ?_
 refine tX 36 rfl hS ?_
 go_simp
 refine rD 37 rfl (fun K hK=>?_)
 go_simp
 go_wp2_with ((go_at_call 44; refine (DH.time HG.out).mono ?_; rintro e wn ⟨rfl,hg⟩))
 rw [dk_time]
 replace HG:=Hi hg
 refine hK.out _ _ ⟨HG.out.at_ (by simp),HG.out.rd (by simp)⟩ (fun hS=>?_)
 clear hK K hg
 refine tX 38 rfl hS ?_
 refine tX 39 rfl hS ?_
 refine tX 40 rfl hS ?_
 go_simp
 refine wpAnyH_done (by kernel_rfl) ?_ _
 go_simp
 have HE:=Hi HG.out.bel
 clear hS HG
 go_wp2
 go_ret
 exact ⟨rfl,HE.out⟩
end Go.Proofs.YthfhefdfehlbkaaGreat

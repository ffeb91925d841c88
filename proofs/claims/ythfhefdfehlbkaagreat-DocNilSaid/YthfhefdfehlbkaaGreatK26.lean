/-
  REGISTERS in memory: New, ours, and the looks Value, Marked, Over, Flag; no registers, and those that nobody made.
  No conditions but that words hold a name's numbers.
  Do: what an op's write leaves; who may not write.
  No conditions but sizes.
  THE LOOKS Marked, Over, Flag; what no registers, and those that nobody made, answer.
  No conditions but that words hold a name's numbers.
-/
import Derived.Test.YthfhefdfehlbkaaGreatSh
import Derived.Test.YthfhefdfehlbkaaGreatK25
import Derived.Test.YthfhefdfehlbkaaGreatK05
set_option maxRecDepth 100000
set_option maxHeartbeats 4000000
namespace Go.Proofs.YthfhefdfehlbkaaGreat
open Go.RowKit
theorem AgAt.turn {w w':World} {b:Nat} {A:Array Value} {G:Nat→Prop} (h:AgAt w b A) (ht:Turns G w w') (hd:¬ G b):AgAt w' b A:=h.block (ht.block b h.lt hd)
structure PLay (w:World) (P M1 M2 M3:Nat) (r:Pm.Rs):Prop where
 box:AgAt w P #[.map (some M1),.map (some M2),.map (some M3)]
 v:RM 3 rvA Pm.z0 w M1 r.v
 m:RM 2 rmA false w M2 r.m
 o:RM 20 rvA Pm.z0 w M3 r.o
 p1:P≠M1
 p2:P≠M2
 p3:P≠M3
 n12:M1≠M2
 n13:M1≠M3
 n23:M2≠M3
section
variable {w w':World} {P M1 M2 M3:Nat} {r:Pm.Rs} {G:Nat→Prop}
theorem PLay.turns (h:PLay w P M1 M2 M3 r) (ht:Turns G w w') (h0:¬ G P) (h1:¬ G M1) (h2:¬ G M2) (h3:¬ G M3):PLay w' P M1 M2 M3 r :=
 ⟨h.box.turn ht h0,h.v.turns ht h1,h.m.turns ht h2,h.o.turns ht h3,h.p1,h.p2,h.p3,h.n12,h.n13,h.n23⟩
theorem PLay.kept (h:PLay w P M1 M2 M3 r) (hb:Below w.heap.size w w'):PLay w' P M1 M2 M3 r:=h.turns (G:=fun _=>False) (Turns.of_below hb) (fun h=>h) (fun h=>h) (fun h=>h) (fun h=>h)
theorem PLay.c0 (h:PLay w P M1 M2 M3 r):w.cell? ⟨P,0,none⟩=some (.map (some M1)):=h.box.cell 0
end
def NoR (w:World) (v:Value):Prop:=v=.pointer none ∨ ∃ b,v=.pointer (some ⟨b,0,none⟩)∧w.cell? ⟨b,0,none⟩=some (.map none)
theorem NoR.kept {w w':World} {v:Value} (h:NoR w v) (hb:Below w.heap.size w w'):NoR w' v:=by
 rcases h with h | ⟨b,h,hc⟩
 ·exact Or.inl h
 ·exact Or.inr ⟨b,h,by rw [hb.cell (cell_lt hc)]; exact hc⟩
theorem map_neq1 (w:World) (M:Nat):Sem.run Tryz.prog (binOp BinOp.neq 272 (Value.map (some M)) (Value.map none)) w=.ok (.bool true) w:=by kernel_rfl
theorem map_neq0 (w:World):Sem.run Tryz.prog (binOp BinOp.neq 272 (Value.map none) (Value.map none)) w=.ok (.bool false) w:=by kernel_rfl
theorem pours_any {P M1 M2 M3:Nat} {r:Pm.Rs} (w:World) (h:PLay w P M1 M2 M3 r):Calls Tryz.prog 195 #[.pointer (some ⟨P,0,none⟩)] w fun e w'=>e=.returned (.bool true)∧w=w':=by
 have y0:=h.c0
 have hne:=map_neq1 w M1
 clear h
 go_enter Tryz.func195,Tryz.ntmps195
 go_wp2
 go_ret
 exact ⟨rfl,rfl⟩
theorem pours_no (v:Value) (w:World) (h:NoR w v):Calls Tryz.prog 195 #[v] w fun e w'=>e=.returned (.bool false)∧w=w':=by
 have hne:=map_neq0 w
 rcases h with rfl | ⟨b,rfl,hc⟩
 ·go_enter Tryz.func195,Tryz.ntmps195
  go_wp2
  go_ret
  exact ⟨rfl,rfl⟩
 ·go_enter Tryz.func195,Tryz.ntmps195
  go_wp2
  go_ret
  exact ⟨rfl,rfl⟩
def PNewed (w:World) (e:Ending) (w':World):Prop :=
 ∃ P M1 M2 M3,e=.returned (.pointer (some ⟨P,0,none⟩))∧PLay w' P M1 M2 M3 Pm.Rs.zero∧Below w.heap.size w w'∧w.heap.size≤P∧w.heap.size≤M1∧w.heap.size≤M2∧w.heap.size≤M3
theorem pnew_any (w:World):Calls Tryz.prog 114 #[] w (PNewed w):=by
 have h1:∀ (w:World) (o:Obj),(w.alloc o).heap.size=w.heap.size+1:=fun w o=>by simp
 have b1:∀ (w:World) (o:Obj),Below w.heap.size w (w.alloc o):=fun w o=>(Below.refl _ _).alloc (Nat.le_refl _) _
 have HE:=Hi (show PLay ((((w.alloc (.map #[] 0)).alloc (.map #[] 0)).alloc (.map #[] 0)).alloc (.cells #[.map (some w.heap.size),.map (some (w.heap.size+1)),.map (some (w.heap.size+1+1))] 278)) (w.heap.size+1+1+1) w.heap.size (w.heap.size+1) (w.heap.size+1+1) Pm.Rs.zero ∧
   Below w.heap.size w ((((w.alloc (.map #[] 0)).alloc (.map #[] 0)).alloc (.map #[] 0)).alloc (.cells #[.map (some w.heap.size),.map (some (w.heap.size+1)),.map (some (w.heap.size+1+1))] 278)) from by
  have k1:=((RM.made (nk:=3) (ca:=rvA) (d:=Pm.z0) w).below (b1 _ (.map #[] 0))).below (b1 _ (.map #[] 0))
  have k2:=(RM.made (nk:=2) (ca:=rmA) (d:=false) (w.alloc (.map #[] 0))).below (b1 _ (.map #[] 0))
  have k3:=RM.made (nk:=20) (ca:=rvA) (d:=Pm.z0) ((w.alloc (.map #[] 0)).alloc (.map #[] 0))
  have k4:=AgAt.new (((w.alloc (.map #[] 0)).alloc (.map #[] 0)).alloc (.map #[] 0)) #[.map (some w.heap.size),.map (some (w.heap.size+1)),.map (some (w.heap.size+1+1))] 278
  simp only [h1] at k2 k3 k4
  refine ⟨⟨k4,k1.below (b1 _ _),k2.below (b1 _ _),k3.below (b1 _ _),by omega,by omega,by omega,by omega,by omega,by omega⟩,?_⟩
  exact (((b1 w (.map #[] 0)).alloc (by simp) (.map #[] 0)).alloc (by simp; omega) (.map #[] 0)).alloc (by simp; omega) _)
 have hmm:=@run_makeMap Tryz.prog
 clear h1 b1
 go_enter Tryz.func114,Tryz.ntmps114
 go_wp2
 go_ret
 exact ⟨_,_,_,_,rfl,HE.out.1,HE.out.2,by omega,by omega,by omega,by omega⟩
theorem value_any {P M1 M2 M3:Nat} {r:Pm.Rs} (n:Qm.St) (p:Int) (w:World) (h:PLay w P M1 M2 M3 r) (hx:KWf 3 (Pm.nameV n p)) :
  Calls Tryz.prog 136 #[.pointer (some ⟨P,0,none⟩),.agg #[.int .i64 n.1,.int .i64 n.2],.int .i64 p] w fun e w'=>e=.returned (.agg (vlA (r.v (Pm.nameV n p)).2))∧Below w.heap.size w w':=by
 obtain ⟨n1,n2⟩:=n
 have HL:=Hi h
 have HN0:=Hi ((AgAt.new w #[.int .i64 n1,.int .i64 n2] 35).kept ((Below.refl _ _).alloc (Nat.le_refl _) (.cells #[.int .i64 0,.int .i64 0,.string ⟨#[]⟩] 38)))
 have HZ:=Hi (AgAt.new (w.alloc (.cells #[.int .i64 n1,.int .i64 n2] 35)) #[.int .i64 0,.int .i64 0,.string ⟨#[]⟩] 38)
 rw [World.size_alloc] at HZ
 have HB:=Hi (((Below.refl w.heap.size w).alloc (Nat.le_refl _) (.cells #[.int .i64 n1,.int .i64 n2] 35)).alloc (by simp) (.cells #[.int .i64 0,.int .i64 0,.string ⟨#[]⟩] 38))
 have HC:=Hi (fun W (hb:Below w.heap.size w W)=>valueV_any M1 r.v (Pm.nameV (n1,n2) p) W (h.v.below hb) hx)
 clear h hx
 generalize (r.v (Pm.nameV (n1,n2) p)).2=u at *
 obtain ⟨u1,u2,u3⟩:=u
 go_enter Tryz.func136,Tryz.ntmps136
 go_wp2_with fail
 refine (pours_any _ (HL.out.kept HB.out)).mono ?_
 rintro e w1 ⟨rfl,rfl⟩
 go_upto_region 3 with fail
 generalize ((w.alloc (.cells #[.int .i64 n1,.int .i64 n2] 35)).alloc (.cells #[.int .i64 0,.int .i64 0,.string ⟨#[]⟩] 38))=wd at *
 refine wp_region_held_drew (S:=fun W=>Turns (fun k=>k=w.heap.size+1) wd W) (by kernel_rfl) (Turns.of_below (Below.drew (Below.refl _ _))) (fun hS=>?_)
 refine tX 0 rfl hS ?_
 refine tX 1 rfl hS ?_
 refine tX 2 rfl hS ?_
 refine tK 3 (v:=?_) rfl ?_ hS ?_
 rotate_left
 ·intro W hSW
  have y0:=((HL.out.kept HB.out).box.turn hSW (by have:=(HL.out.box).lt; omega)).cell 0
  have y0:W.cell? ⟨P,0,none⟩=some (.map (some M1)):=y0
  go_simp
  all_goals with_reducible rfl
 go_simp
 refine tK 4 (v:=.agg #[.int .i64 n1,.int .i64 n2]) rfl (fun W hSW=>exec_load_ag stT rfl rfl rfl (HN0.out.turn hSW (by omega))) hS ?_
 refine tX 5 rfl hS ?_
 refine tX 6 rfl hS ?_
 go_simp
 refine rD 7 rfl (fun K hK=>?_)
 go_simp
 go_wp2_with ((go_at_call 231; refine (HC.out _ (HB.out.trans ((Below.drew (Below.refl _ _)).mono HB.out.size))).mono ?_; rintro e wn ⟨rfl,hbn⟩))
 refine hK.out _ _ (hS.call hbn) (fun hS=>?_)
 have HBN:=Hi hbn
 clear hK K hbn
 refine rD 8 rfl (fun K hK=>?_)
 have HZ2:=Hi (HZ.out.kept ((Below.drew (Below.refl _ _)).trans (HBN.out.mono (Nat.le_refl _))))
 refine step_of (by kernel_rfl) ?_
 refine wp_store_ag vA _ _ rfl (w.heap.size+1) rfl _ HZ2.out rfl rfl rfl (vl_one (u1,u2,u3)) ?_
 intro w5 hv5 hko5 hsz5 hbn5
 refine hK.out _ _ (hS.trans ((stored_turns hko5 hsz5 hbn5).mono fun _ _ h=>Or.inl h)) (fun hS=>?_)
 clear hK K
 refine wpAnyH_done (by kernel_rfl) ?_ _
 go_simp
 have hb:=hbn5 _ _ (HB.out.trans (((Below.drew (Below.refl _ _)).trans HBN.out).mono HB.out.size)) (by omega)
 clear hS
 go_wp2
 refine bodyPost_ret (results_ag vA _ rfl rfl hv5 rfl) rfl ?_
 exact ⟨rfl,hb⟩
open Go.RowKit
theorem okNode_wf {t r:Int} (h:okNode t r=true):(Lit.int .i64 t).wf=true∧(Lit.int .i64 r).wf=true:=by
 unfold okNode at h
 rw [Bool.and_eq_true] at h
 have:=rightB_yes h.1
 exact ⟨i64wf (by omega) (by omega),i64wf (by omega) (by omega)⟩
namespace Pm
theorem right_node {x:Opp} (h:rightO x=true) (hk:x.k=3∨x.k=4∨x.k=6):okNode x.nt x.nr=true:=by
 have h1:=(rightO_fit h).1
 rcases hk with hk | hk | hk <;> rw [hk] at h1 <;> simp [fitO,prt] at h1
 ·exact h1.1
 ·exact h1
 ·exact h1.1.1
theorem right_prop {x:Opp} (h:rightO x=true) (hk:x.k=3∨x.k=6):1≤x.p∧x.p≤8:=by
 have h1:right8V x.p x.vk x.vn x.vt.data.toList=true:=by
  have:=(rightO_fit h).1
  rcases hk with hk | hk
  ·rw [hk] at this; simp [fitO,prt] at this; exact this.2
  ·rw [hk] at this; simp [fitO,prt] at this; exact this.2
 unfold right8V at h1
 rw [Bool.and_eq_true] at h1
 exact of_decide_eq_true h1.1
theorem right_path {x:Opp} (h:rightO x=true) (hk:x.k=6):∀ s ∈ x.path,okNode s.1 s.2=true:=by
 have h0:=(rightO_fit h).1
 rw [hk] at h0
 simp [fitO,prt,okPath] at h0
 intro s hs
 exact h0.1.2.2 s.1 s.2 hs
theorem doR_V {r:Rs} {w:Wr} (h:okW w=true) (hk:w.x.k=3):doR r w=⟨put r.v (nameV (w.x.nt,w.x.nr) w.x.p) w.s (w.x.vk,w.x.vn,w.x.vt),r.m,r.o⟩:=by
 have e1:hV w=some (nameV (w.x.nt,w.x.nr) w.x.p,(w.x.vk,w.x.vn,w.x.vt)):=by unfold hV; rw [if_pos ⟨h,hk⟩]
 have e2:hM w=none:=by unfold hM; rw [if_neg (fun h=>by omega)]
 have e3:hO w=none:=by unfold hO; rw [if_neg (fun h=>by omega)]
 unfold doR
 rw [step_some e1,step_none e2,step_none e3]
theorem doR_M {r:Rs} {w:Wr} (h:okW w=true) (hk:w.x.k=4):doR r w=⟨r.v,put r.m (nameM (w.x.nt,w.x.nr)) w.s w.x.on,r.o⟩:=by
 have e1:hV w=none:=by unfold hV; rw [if_neg (fun h=>by omega)]
 have e2:hM w=some (nameM (w.x.nt,w.x.nr),w.x.on):=by unfold hM; rw [if_pos ⟨h,hk⟩]
 have e3:hO w=none:=by unfold hO; rw [if_neg (fun h=>by omega)]
 unfold doR
 rw [step_none e1,step_some e2,step_none e3]
theorem doR_O {r:Rs} {w:Wr} (h:okW w=true) (hk:w.x.k=6):doR r w=⟨r.v,r.m,put r.o (nameO (w.x.nt,w.x.nr) w.x.path w.x.p) w.s (w.x.vk,w.x.vn,w.x.vt)⟩:=by
 have e1:hV w=none:=by unfold hV; rw [if_neg (fun h=>by omega)]
 have e2:hM w=none:=by unfold hM; rw [if_neg (fun h=>by omega)]
 have e3:hO w=some (nameO (w.x.nt,w.x.nr) w.x.path w.x.p,(w.x.vk,w.x.vn,w.x.vt)):=by unfold hO; rw [if_pos ⟨h,hk⟩]
 unfold doR
 rw [step_none e1,step_none e2,step_some e3]
end Pm
theorem wfV {n:Qm.St} {p:Int} (h:(Lit.int .i64 n.1).wf=true) (k:(Lit.int .i64 n.2).wf=true) (hp:(Lit.int .i64 p).wf=true):KWf 3 (Pm.nameV n p):=⟨rfl,fun i hi=>by
 simp only [Pm.nameV,List.mem_cons,List.not_mem_nil,or_false] at hi
 rcases hi with rfl | rfl | rfl <;> assumption⟩
theorem wfM {n:Qm.St} (h:(Lit.int .i64 n.1).wf=true) (k:(Lit.int .i64 n.2).wf=true):KWf 2 (Pm.nameM n):=⟨rfl,fun i hi=>by
 simp only [Pm.nameM,List.mem_cons,List.not_mem_nil,or_false] at hi
 rcases hi with rfl | rfl <;> assumption⟩
theorem wfO {n:Qm.St} {l:List Qm.St} {p:Int} (h:(Lit.int .i64 n.1).wf=true) (k:(Lit.int .i64 n.2).wf=true) (hp:(Lit.int .i64 p).wf=true) (hl:∀ s ∈ l,(Lit.int .i64 s.1).wf=true∧(Lit.int .i64 s.2).wf=true) (hlen:l.length≤9000000000000000000):KWf 20 (Pm.nameO n l p):=⟨Pm.nameO_length _ _ _,fun i hi=>by
 unfold Pm.nameO Pm.pad at hi
 rcases List.mem_append.1 hi with hi | hi
 ·rcases List.mem_append.1 hi with hi | hi
  ·simp only [List.mem_cons,List.not_mem_nil,or_false] at hi
   rcases hi with rfl | rfl | rfl <;> assumption
  ·rcases List.mem_append.1 hi with hi | hi
   ·unfold Pm.flat at hi
    obtain ⟨s,hs,hi⟩:=List.mem_flatMap.1 hi
    have:=hl s (List.mem_of_mem_take hs)
    simp only [List.mem_cons,List.not_mem_nil,or_false] at hi
    rcases hi with rfl | rfl
    ·exact this.1
    ·exact this.2
   ·rw [List.eq_of_mem_replicate hi]; exact i64wf (by omega) (by omega)
 ·rw [List.mem_singleton.1 hi]; exact i64wf (by omega) (by omega)⟩
def Done (P M1 M2 M3:Nat) (r:Pm.Rs) (y:Pm.Wr) (w:World) (e:Ending) (w':World):Prop :=
 e=.returned (.int .i64 (Pm.doE y))∧PLay w' P M1 M2 M3 (Pm.doR r y)∧Turns (fun k=>k=M1∨k=M2∨k=M3) w w'
theorem do0_any {P M1 M2 M3:Nat} {r:Pm.Rs} (s:Qm.St) (x:Opp) (q:Option Addr) (c:Nat) (w:World) (h:PLay w P M1 M2 M3 r) (hs:Sz x) (ha:Pa w x q c) (hn:okNode s.1 s.2=false) :
  Calls Tryz.prog 205 #[.pointer (some ⟨P,0,none⟩),.agg #[.int .i64 s.1,.int .i64 s.2],.agg (opA x q c)] w (Done P M1 M2 M3 r ⟨s,x⟩ w):=by
 obtain ⟨s1,s2⟩:=s
 have HL:=Hi h
 have HSZ:=Hi hs
 have HS0:=Hi ((AgAt.new w #[.int .i64 s1,.int .i64 s2] 35).kept ((Below.refl _ _).alloc (Nat.le_refl _) (.cells (opA x q c) 43)))
 have HO:=Hi (show AgAt ((w.alloc (.cells #[.int .i64 s1,.int .i64 s2] 35)).alloc (.cells (opA x q c) 43)) (w.heap.size+1) (opA x q c) from by
  have:=AgAt.new (w.alloc (.cells #[.int .i64 s1,.int .i64 s2] 35)) (opA x q c) 43
  rwa [World.size_alloc] at this)
 have HB:=Hi (((Below.refl w.heap.size w).alloc (Nat.le_refl _) (.cells #[.int .i64 s1,.int .i64 s2] 35)).alloc (by simp) (.cells (opA x q c) 43))
 have HP:=Hi (ha.kept HB.out)
 have HN:=Hi hn
 have HDE:=Hi (show Pm.doE ⟨(s1,s2),x⟩=1 from by
  unfold Pm.doE Pm.okW
  rw [show okNode s1 s2=false from hn]
  rfl)
 clear h hs ha hn
 go_enter Tryz.func205,Tryz.ntmps205
 go_wp2_with fail
 refine (pours_any _ (HL.out.kept HB.out)).mono ?_
 rintro e w1 ⟨rfl,rfl⟩
 go_wp2_with (refine wpList_load_ag stT (by kernel_rfl) _ rfl _ rfl (A:=#[.int .i64 s1,.int .i64 s2]) rfl HS0.out ?_)
 refine (onode_any s1 s2 _).mono ?_
 rw [HN.out]
 rintro e w2 ⟨rfl,hb2⟩
 replace HP:=Hi (HP.out.kept hb2)
 replace HO:=Hi (HO.out.kept hb2)
 replace HS0:=Hi (HS0.out.kept hb2)
 replace HB:=Hi (HB.out.trans (hb2.mono HB.out.size))
 clear hb2
 have HE:=Hi (show Done P M1 M2 M3 r ⟨(s1,s2),x⟩ w (.returned (.int .i64 1)) w2 from ⟨by rw [HDE.out],by rw [Pm.doR_bad (by rw [HDE.out]; decide)]; exact HL.out.kept HB.out,Turns.of_below HB.out⟩)
 clear HL HO HS0 HB HP
 go_wp2
 go_ret
 exact HE.out
theorem do1_any {P M1 M2 M3:Nat} {r:Pm.Rs} (s:Qm.St) (x:Opp) (q:Option Addr) (c:Nat) (w:World) (h:PLay w P M1 M2 M3 r) (hs:Sz x) (ha:Pa w x q c) (hn:okNode s.1 s.2=true) (hr:rightO x=false) :
  Calls Tryz.prog 205 #[.pointer (some ⟨P,0,none⟩),.agg #[.int .i64 s.1,.int .i64 s.2],.agg (opA x q c)] w (Done P M1 M2 M3 r ⟨s,x⟩ w):=by
 obtain ⟨s1,s2⟩:=s
 have HL:=Hi h
 have HSZ:=Hi hs
 have HS0:=Hi ((AgAt.new w #[.int .i64 s1,.int .i64 s2] 35).kept ((Below.refl _ _).alloc (Nat.le_refl _) (.cells (opA x q c) 43)))
 have HO:=Hi (show AgAt ((w.alloc (.cells #[.int .i64 s1,.int .i64 s2] 35)).alloc (.cells (opA x q c) 43)) (w.heap.size+1) (opA x q c) from by
  have:=AgAt.new (w.alloc (.cells #[.int .i64 s1,.int .i64 s2] 35)) (opA x q c) 43
  rwa [World.size_alloc] at this)
 have HB:=Hi (((Below.refl w.heap.size w).alloc (Nat.le_refl _) (.cells #[.int .i64 s1,.int .i64 s2] 35)).alloc (by simp) (.cells (opA x q c) 43))
 have HP:=Hi (ha.kept HB.out)
 have HN:=Hi hn
 have HRT:=Hi hr
 have HDE:=Hi (show Pm.doE ⟨(s1,s2),x⟩=1 from by
  unfold Pm.doE Pm.okW
  rw [show okNode s1 s2=true from hn,hr]
  rfl)
 clear h hs ha hn hr
 go_enter Tryz.func205,Tryz.ntmps205
 go_wp2_with fail
 refine (pours_any _ (HL.out.kept HB.out)).mono ?_
 rintro e w1 ⟨rfl,rfl⟩
 go_wp2_with (refine wpList_load_ag stT (by kernel_rfl) _ rfl _ rfl (A:=#[.int .i64 s1,.int .i64 s2]) rfl HS0.out ?_)
 refine (onode_any s1 s2 _).mono ?_
 rw [HN.out]
 rintro e w2 ⟨rfl,hb2⟩
 replace HP:=Hi (HP.out.kept hb2)
 replace HO:=Hi (HO.out.kept hb2)
 replace HS0:=Hi (HS0.out.kept hb2)
 replace HB:=Hi (HB.out.trans (hb2.mono HB.out.size))
 clear hb2
 go_wp2_with (refine wpList_load_opG otP (by kernel_rfl) _ rfl _ rfl x q c HO.out ?_)
 refine (oright_any x q c _ HSZ.out HP.out).mono ?_
 rw [HRT.out]
 rintro e w3 ⟨rfl,hb3⟩
 replace HP:=Hi (HP.out.kept hb3)
 replace HO:=Hi (HO.out.kept hb3)
 replace HS0:=Hi (HS0.out.kept hb3)
 replace HB:=Hi (HB.out.trans (hb3.mono HB.out.size))
 clear hb3
 have HE:=Hi (show Done P M1 M2 M3 r ⟨(s1,s2),x⟩ w (.returned (.int .i64 1)) w3 from ⟨by rw [HDE.out],by rw [Pm.doR_bad (by rw [HDE.out]; decide)]; exact HL.out.kept HB.out,Turns.of_below HB.out⟩)
 clear HL HO HS0 HB HP
 go_wp2
 go_ret
 exact HE.out
theorem doK_any {P M1 M2 M3:Nat} {r:Pm.Rs} (s:Qm.St) (x:Opp) (q:Option Addr) (c:Nat) (w:World) (h:PLay w P M1 M2 M3 r) (hs:Sz x) (ha:Pa w x q c) (hn:okNode s.1 s.2=true) (hr:rightO x=true) (k3:x.k≠3) (k4:x.k≠4) (k6:x.k≠6) :
  Calls Tryz.prog 205 #[.pointer (some ⟨P,0,none⟩),.agg #[.int .i64 s.1,.int .i64 s.2],.agg (opA x q c)] w (Done P M1 M2 M3 r ⟨s,x⟩ w):=by
 obtain ⟨s1,s2⟩:=s
 have HL:=Hi h
 have HSZ:=Hi hs
 have HS0:=Hi ((AgAt.new w #[.int .i64 s1,.int .i64 s2] 35).kept ((Below.refl _ _).alloc (Nat.le_refl _) (.cells (opA x q c) 43)))
 have HO:=Hi (show AgAt ((w.alloc (.cells #[.int .i64 s1,.int .i64 s2] 35)).alloc (.cells (opA x q c) 43)) (w.heap.size+1) (opA x q c) from by
  have:=AgAt.new (w.alloc (.cells #[.int .i64 s1,.int .i64 s2] 35)) (opA x q c) 43
  rwa [World.size_alloc] at this)
 have HB:=Hi (((Below.refl w.heap.size w).alloc (Nat.le_refl _) (.cells #[.int .i64 s1,.int .i64 s2] 35)).alloc (by simp) (.cells (opA x q c) 43))
 have HP:=Hi (ha.kept HB.out)
 have HN:=Hi hn
 have HRT:=Hi hr
 have e3:(x.k == 3)=false:=by simpa using k3
 have e4:(x.k == 4)=false:=by simpa using k4
 have e6:(x.k == 6)=false:=by simpa using k6
 have HDE:=Hi (show Pm.doE ⟨(s1,s2),x⟩=42 from by
  unfold Pm.doE Pm.okW
  rw [show okNode s1 s2=true from hn,hr,if_pos (show (true && true)=true from rfl),if_neg (by rintro (h | h | h) <;> contradiction)])
 clear h hs ha hn hr
 go_enter Tryz.func205,Tryz.ntmps205
 go_wp2_with fail
 refine (pours_any _ (HL.out.kept HB.out)).mono ?_
 rintro e w1 ⟨rfl,rfl⟩
 go_wp2_with (refine wpList_load_ag stT (by kernel_rfl) _ rfl _ rfl (A:=#[.int .i64 s1,.int .i64 s2]) rfl HS0.out ?_)
 refine (onode_any s1 s2 _).mono ?_
 rw [HN.out]
 rintro e w2 ⟨rfl,hb2⟩
 replace HP:=Hi (HP.out.kept hb2)
 replace HO:=Hi (HO.out.kept hb2)
 replace HS0:=Hi (HS0.out.kept hb2)
 replace HB:=Hi (HB.out.trans (hb2.mono HB.out.size))
 clear hb2
 go_wp2_with (refine wpList_load_opG otP (by kernel_rfl) _ rfl _ rfl x q c HO.out ?_)
 refine (oright_any x q c _ HSZ.out HP.out).mono ?_
 rw [HRT.out]
 rintro e w3 ⟨rfl,hb3⟩
 replace HP:=Hi (HP.out.kept hb3)
 replace HO:=Hi (HO.out.kept hb3)
 replace HS0:=Hi (HS0.out.kept hb3)
 replace HB:=Hi (HB.out.trans (hb3.mono HB.out.size))
 clear hb3
 have y0:w3.cell? ⟨w.heap.size+1,0,none⟩=some (.int .i64 x.k):=HO.out.cell 0
 have HE:=Hi (show Done P M1 M2 M3 r ⟨(s1,s2),x⟩ w (.returned (.int .i64 42)) w3 from ⟨by rw [HDE.out],by rw [Pm.doR_bad (by rw [HDE.out]; decide)]; exact HL.out.kept HB.out,Turns.of_below HB.out⟩)
 clear HL HO HS0 HB HP
 go_wp2
 go_ret
 exact HE.out
theorem doV_any {P M1 M2 M3:Nat} {r:Pm.Rs} (s:Qm.St) (x:Opp) (q:Option Addr) (c:Nat) (w:World) (h:PLay w P M1 M2 M3 r) (hs:Sz x) (ha:Pa w x q c) (hn:okNode s.1 s.2=true) (hr:rightO x=true) (hk:x.k=3) :
  Calls Tryz.prog 205 #[.pointer (some ⟨P,0,none⟩),.agg #[.int .i64 s.1,.int .i64 s.2],.agg (opA x q c)] w (Done P M1 M2 M3 r ⟨s,x⟩ w):=by
 obtain ⟨s1,s2⟩:=s
 have HL:=Hi h
 have HSZ:=Hi hs
 have HS0:=Hi ((AgAt.new w #[.int .i64 s1,.int .i64 s2] 35).kept ((Below.refl _ _).alloc (Nat.le_refl _) (.cells (opA x q c) 43)))
 have HO:=Hi (show AgAt ((w.alloc (.cells #[.int .i64 s1,.int .i64 s2] 35)).alloc (.cells (opA x q c) 43)) (w.heap.size+1) (opA x q c) from by
  have:=AgAt.new (w.alloc (.cells #[.int .i64 s1,.int .i64 s2] 35)) (opA x q c) 43
  rwa [World.size_alloc] at this)
 have HB:=Hi (((Below.refl w.heap.size w).alloc (Nat.le_refl _) (.cells #[.int .i64 s1,.int .i64 s2] 35)).alloc (by simp) (.cells (opA x q c) 43))
 have HP:=Hi (ha.kept HB.out)
 have HN:=Hi hn
 have HRT:=Hi hr
 have HOK:=Hi (show Pm.okW ⟨(s1,s2),x⟩=true from by
  unfold Pm.okW
  rw [show okNode s1 s2=true from hn,hr]
  rfl)
 have HK:=Hi hk
 have HWF:=Hi (show KWf 3 (Pm.nameV (x.nt,x.nr) x.p) from wfV (okNode_wf (Pm.right_node hr (Or.inl hk))).1 (okNode_wf (Pm.right_node hr (Or.inl hk))).2 (i64wf (by have:=Pm.right_prop hr (Or.inl hk); omega) (by have:=Pm.right_prop hr (Or.inl hk); omega)))
 clear h hs ha hn hr hk
 go_enter Tryz.func205,Tryz.ntmps205
 go_wp2_with fail
 refine (pours_any _ (HL.out.kept HB.out)).mono ?_
 rintro e w1 ⟨rfl,rfl⟩
 go_wp2_with (refine wpList_load_ag stT (by kernel_rfl) _ rfl _ rfl (A:=#[.int .i64 s1,.int .i64 s2]) rfl HS0.out ?_)
 refine (onode_any s1 s2 _).mono ?_
 rw [HN.out]
 rintro e w2 ⟨rfl,hb2⟩
 replace HP:=Hi (HP.out.kept hb2)
 replace HO:=Hi (HO.out.kept hb2)
 replace HS0:=Hi (HS0.out.kept hb2)
 replace HB:=Hi (HB.out.trans (hb2.mono HB.out.size))
 clear hb2
 go_wp2_with (refine wpList_load_opG otP (by kernel_rfl) _ rfl _ rfl x q c HO.out ?_)
 refine (oright_any x q c _ HSZ.out HP.out).mono ?_
 rw [HRT.out]
 rintro e w3 ⟨rfl,hb3⟩
 replace HP:=Hi (HP.out.kept hb3)
 replace HO:=Hi (HO.out.kept hb3)
 replace HS0:=Hi (HS0.out.kept hb3)
 replace HB:=Hi (HB.out.trans (hb3.mono HB.out.size))
 clear hb3
 have HLW:=Hi (HL.out.kept HB.out)
 have HLP:=Hi (show P<w.heap.size from (HL.out.box).lt)
 have HLM:=Hi (show M1<w.heap.size from (HL.out.v).lt)
 have y0:w3.cell? ⟨w.heap.size+1,0,none⟩=some (.int .i64 3):=by rw [← HK.out]; exact HO.out.cell 0
 go_upto_region 6 with fail
 clear y0
 refine wp_region_held_drew (S:=fun W=>Turns (fun k=>k=M1) w3 W) (by kernel_rfl) (Turns.of_below (Below.drew (Below.refl _ _))) (fun hS=>?_)
 refine tX 0 rfl hS ?_
 refine tX 1 rfl hS ?_
 refine tX 2 rfl hS ?_
 refine tK 3 (v:=?_) rfl ?_ hS ?_
 rotate_left
 ·intro W hSW
  have y0:=(HLW.out.box.turn hSW (HLW.out.p1)).cell 0
  have y0:W.cell? ⟨P,0,none⟩=some (.map (some M1)):=y0
  go_simp
  all_goals with_reducible rfl
 go_simp
 refine tX 4 rfl hS ?_
 go_simp
 refine tK 5 (v:=.agg #[.int .i64 x.nt,.int .i64 x.nr]) rfl (fun W hSW=>exec_load_pp stT rfl rfl (HO.out.turn hSW (by have:=HLM.out; omega)) [.int .i64 x.nt,.int .i64 x.nr] (by intro j v hv; match j,hv with | 0,hv=>exact hv | 1,hv=>exact hv) rfl) hS ?_
 refine tX 6 rfl hS ?_
 refine tK 7 (v:=?_) rfl ?_ hS ?_
 rotate_left
 ·intro W hSW
  have y0:W.cell? ⟨w.heap.size+1,7,none⟩=some (.int .i64 x.p):=(HO.out.turn hSW (by have:=HLM.out; omega)).cell 7
  go_simp
  all_goals with_reducible rfl
 refine tX 8 rfl hS ?_
 go_simp
 refine tK 9 (v:=.agg #[.int .i64 s1,.int .i64 s2]) rfl (fun W hSW=>exec_load_ag stT rfl rfl rfl (HS0.out.turn hSW (by have:=HLM.out; omega))) hS ?_
 refine tX 10 rfl hS ?_
 go_simp
 refine tK 11 (v:=.agg #[.int .i64 x.vk,.int .i64 x.vn,.string x.vt]) rfl (fun W hSW=>exec_load_pp vA rfl rfl (HO.out.turn hSW (by have:=HLM.out; omega)) [.int .i64 x.vk,.int .i64 x.vn,.string x.vt] (by intro j v hv; match j,hv with | 0,hv=>exact hv | 1,hv=>exact hv | 2,hv=>exact hv) rfl) hS ?_
 go_simp
 refine rD 12 rfl (fun K hK=>?_)
 go_simp
 go_wp2_with ((go_at_call 267; refine (writeV_any M1 r.v (Pm.nameV (x.nt,x.nr) x.p) (s1,s2) (x.vk,x.vn,x.vt) _ (HLW.out.kept (Below.drew (Below.refl _ _))).v HWF.out).mono ?_; rintro e wm ⟨rfl,hrm,htm⟩))
 have HT:=Hi (show Turns (fun k=>k=M1) w3 wm from (Turns.of_below (Below.drew (Below.refl _ _))).trans (htm.mono fun _ _ h=>Or.inl h))
 have HRM:=Hi hrm
 refine hK.out _ _ HT.out (fun hS=>?_)
 clear hK K hrm htm
 refine wpAnyH_done (by kernel_rfl) ?_ _
 go_simp
 have HE:=Hi (show Done P M1 M2 M3 r ⟨(s1,s2),x⟩ w (.returned (.int .i64 0)) wm from ⟨by
  unfold Pm.doE
  rw [if_pos HOK.out,if_pos (by rw [HK.out]; decide)],by
  rw [Pm.doR_V HOK.out HK.out]
  exact ⟨HLW.out.box.turn HT.out HLW.out.p1,HRM.out,HLW.out.m.turns HT.out HLW.out.n12.symm,HLW.out.o.turns HT.out HLW.out.n13.symm,HLW.out.p1,HLW.out.p2,HLW.out.p3,HLW.out.n12,HLW.out.n13,HLW.out.n23⟩,(Turns.of_below HB.out).trans (HT.out.mono fun _ _ h=>Or.inl (Or.inl h))⟩)
 clear hS HT HRM HLW HL
 go_wp2
 go_ret
 exact HE.out
theorem doM_any {P M1 M2 M3:Nat} {r:Pm.Rs} (s:Qm.St) (x:Opp) (q:Option Addr) (c:Nat) (w:World) (h:PLay w P M1 M2 M3 r) (hs:Sz x) (ha:Pa w x q c) (hn:okNode s.1 s.2=true) (hr:rightO x=true) (hk:x.k=4) :
  Calls Tryz.prog 205 #[.pointer (some ⟨P,0,none⟩),.agg #[.int .i64 s.1,.int .i64 s.2],.agg (opA x q c)] w (Done P M1 M2 M3 r ⟨s,x⟩ w):=by
 obtain ⟨s1,s2⟩:=s
 have HL:=Hi h
 have HSZ:=Hi hs
 have HS0:=Hi ((AgAt.new w #[.int .i64 s1,.int .i64 s2] 35).kept ((Below.refl _ _).alloc (Nat.le_refl _) (.cells (opA x q c) 43)))
 have HO:=Hi (show AgAt ((w.alloc (.cells #[.int .i64 s1,.int .i64 s2] 35)).alloc (.cells (opA x q c) 43)) (w.heap.size+1) (opA x q c) from by
  have:=AgAt.new (w.alloc (.cells #[.int .i64 s1,.int .i64 s2] 35)) (opA x q c) 43
  rwa [World.size_alloc] at this)
 have HB:=Hi (((Below.refl w.heap.size w).alloc (Nat.le_refl _) (.cells #[.int .i64 s1,.int .i64 s2] 35)).alloc (by simp) (.cells (opA x q c) 43))
 have HP:=Hi (ha.kept HB.out)
 have HN:=Hi hn
 have HRT:=Hi hr
 have HOK:=Hi (show Pm.okW ⟨(s1,s2),x⟩=true from by
  unfold Pm.okW
  rw [show okNode s1 s2=true from hn,hr]
  rfl)
 have HK:=Hi hk
 have HWF:=Hi (show KWf 2 (Pm.nameM (x.nt,x.nr)) from wfM (okNode_wf (Pm.right_node hr (Or.inr (Or.inl hk)))).1 (okNode_wf (Pm.right_node hr (Or.inr (Or.inl hk)))).2)
 clear h hs ha hn hr hk
 go_enter Tryz.func205,Tryz.ntmps205
 go_wp2_with fail
 refine (pours_any _ (HL.out.kept HB.out)).mono ?_
 rintro e w1 ⟨rfl,rfl⟩
 go_wp2_with (refine wpList_load_ag stT (by kernel_rfl) _ rfl _ rfl (A:=#[.int .i64 s1,.int .i64 s2]) rfl HS0.out ?_)
 refine (onode_any s1 s2 _).mono ?_
 rw [HN.out]
 rintro e w2 ⟨rfl,hb2⟩
 replace HP:=Hi (HP.out.kept hb2)
 replace HO:=Hi (HO.out.kept hb2)
 replace HS0:=Hi (HS0.out.kept hb2)
 replace HB:=Hi (HB.out.trans (hb2.mono HB.out.size))
 clear hb2
 go_wp2_with (refine wpList_load_opG otP (by kernel_rfl) _ rfl _ rfl x q c HO.out ?_)
 refine (oright_any x q c _ HSZ.out HP.out).mono ?_
 rw [HRT.out]
 rintro e w3 ⟨rfl,hb3⟩
 replace HP:=Hi (HP.out.kept hb3)
 replace HO:=Hi (HO.out.kept hb3)
 replace HS0:=Hi (HS0.out.kept hb3)
 replace HB:=Hi (HB.out.trans (hb3.mono HB.out.size))
 clear hb3
 have HLW:=Hi (HL.out.kept HB.out)
 have HLP:=Hi (show P<w.heap.size from (HL.out.box).lt)
 have HLM:=Hi (show M2<w.heap.size from (HL.out.m).lt)
 have y0:w3.cell? ⟨w.heap.size+1,0,none⟩=some (.int .i64 4):=by rw [← HK.out]; exact HO.out.cell 0
 go_upto_region 8 with fail
 clear y0
 refine wp_region_held_drew (S:=fun W=>Turns (fun k=>k=M2) w3 W) (by kernel_rfl) (Turns.of_below (Below.drew (Below.refl _ _))) (fun hS=>?_)
 refine tX 0 rfl hS ?_
 refine tX 1 rfl hS ?_
 refine tX 2 rfl hS ?_
 refine tK 3 (v:=?_) rfl ?_ hS ?_
 rotate_left
 ·intro W hSW
  have y0:=(HLW.out.box.turn hSW (HLW.out.p2)).cell 1
  have y0:W.cell? ⟨P,1,none⟩=some (.map (some M2)):=y0
  go_simp
  all_goals with_reducible rfl
 go_simp
 refine tX 4 rfl hS ?_
 go_simp
 refine tK 5 (v:=.agg #[.int .i64 x.nt,.int .i64 x.nr]) rfl (fun W hSW=>exec_load_pp stT rfl rfl (HO.out.turn hSW (by have:=HLM.out; omega)) [.int .i64 x.nt,.int .i64 x.nr] (by intro j v hv; match j,hv with | 0,hv=>exact hv | 1,hv=>exact hv) rfl) hS ?_
 go_simp
 refine tK 6 (v:=.agg #[.int .i64 s1,.int .i64 s2]) rfl (fun W hSW=>exec_load_ag stT rfl rfl rfl (HS0.out.turn hSW (by have:=HLM.out; omega))) hS ?_
 refine tX 7 rfl hS ?_
 refine tK 8 (v:=?_) rfl ?_ hS ?_
 rotate_left
 ·intro W hSW
  have y0:W.cell? ⟨w.heap.size+1,11,none⟩=some (.bool x.on):=(HO.out.turn hSW (by have:=HLM.out; omega)).cell 11
  go_simp
  all_goals with_reducible rfl
 go_simp
 refine rD 9 rfl (fun K hK=>?_)
 go_simp
 go_wp2_with ((go_at_call 268; refine (writeM_any M2 r.m (Pm.nameM (x.nt,x.nr)) (s1,s2) x.on _ (HLW.out.kept (Below.drew (Below.refl _ _))).m HWF.out).mono ?_; rintro e wm ⟨rfl,hrm,htm⟩))
 have HT:=Hi (show Turns (fun k=>k=M2) w3 wm from (Turns.of_below (Below.drew (Below.refl _ _))).trans (htm.mono fun _ _ h=>Or.inl h))
 have HRM:=Hi hrm
 refine hK.out _ _ HT.out (fun hS=>?_)
 clear hK K hrm htm
 refine wpAnyH_done (by kernel_rfl) ?_ _
 go_simp
 have HE:=Hi (show Done P M1 M2 M3 r ⟨(s1,s2),x⟩ w (.returned (.int .i64 0)) wm from ⟨by
  unfold Pm.doE
  rw [if_pos HOK.out,if_pos (by rw [HK.out]; decide)],by
  rw [Pm.doR_M HOK.out HK.out]
  exact ⟨HLW.out.box.turn HT.out HLW.out.p2,HLW.out.v.turns HT.out HLW.out.n12,HRM.out,HLW.out.o.turns HT.out HLW.out.n23.symm,HLW.out.p1,HLW.out.p2,HLW.out.p3,HLW.out.n12,HLW.out.n13,HLW.out.n23⟩,(Turns.of_below HB.out).trans (HT.out.mono fun _ _ h=>Or.inl (Or.inr (Or.inl h)))⟩)
 clear hS HT HRM HLW HL
 go_wp2
 go_ret
 exact HE.out
theorem doO_any {P M1 M2 M3:Nat} {r:Pm.Rs} (s:Qm.St) (x:Opp) (q:Option Addr) (c:Nat) (w:World) (h:PLay w P M1 M2 M3 r) (hs:Sz x) (ha:Pa w x q c) (hn:okNode s.1 s.2=true) (hr:rightO x=true) (hk:x.k=6) :
  Calls Tryz.prog 205 #[.pointer (some ⟨P,0,none⟩),.agg #[.int .i64 s.1,.int .i64 s.2],.agg (opA x q c)] w (Done P M1 M2 M3 r ⟨s,x⟩ w):=by
 obtain ⟨s1,s2⟩:=s
 have HL:=Hi h
 have HSZ:=Hi hs
 have HS0:=Hi ((AgAt.new w #[.int .i64 s1,.int .i64 s2] 35).kept ((Below.refl _ _).alloc (Nat.le_refl _) (.cells (opA x q c) 43)))
 have HO:=Hi (show AgAt ((w.alloc (.cells #[.int .i64 s1,.int .i64 s2] 35)).alloc (.cells (opA x q c) 43)) (w.heap.size+1) (opA x q c) from by
  have:=AgAt.new (w.alloc (.cells #[.int .i64 s1,.int .i64 s2] 35)) (opA x q c) 43
  rwa [World.size_alloc] at this)
 have HB:=Hi (((Below.refl w.heap.size w).alloc (Nat.le_refl _) (.cells #[.int .i64 s1,.int .i64 s2] 35)).alloc (by simp) (.cells (opA x q c) 43))
 have HP:=Hi (ha.kept HB.out)
 have HN:=Hi hn
 have HRT:=Hi hr
 have HOK:=Hi (show Pm.okW ⟨(s1,s2),x⟩=true from by
  unfold Pm.okW
  rw [show okNode s1 s2=true from hn,hr]
  rfl)
 have HK:=Hi hk
 have HWF:=Hi (show KWf 20 (Pm.nameO (x.nt,x.nr) x.path x.p) from wfO (okNode_wf (Pm.right_node hr (Or.inr (Or.inr hk)))).1 (okNode_wf (Pm.right_node hr (Or.inr (Or.inr hk)))).2 (i64wf (by have:=Pm.right_prop hr (Or.inr hk); omega) (by have:=Pm.right_prop hr (Or.inr hk); omega)) (fun s hs=>okNode_wf (Pm.right_path hr hk s hs)) (by have:=(Pm.right_QO hr hk).2; omega))
 clear h hs ha hn hr hk
 go_enter Tryz.func205,Tryz.ntmps205
 go_wp2_with fail
 refine (pours_any _ (HL.out.kept HB.out)).mono ?_
 rintro e w1 ⟨rfl,rfl⟩
 go_wp2_with (refine wpList_load_ag stT (by kernel_rfl) _ rfl _ rfl (A:=#[.int .i64 s1,.int .i64 s2]) rfl HS0.out ?_)
 refine (onode_any s1 s2 _).mono ?_
 rw [HN.out]
 rintro e w2 ⟨rfl,hb2⟩
 replace HP:=Hi (HP.out.kept hb2)
 replace HO:=Hi (HO.out.kept hb2)
 replace HS0:=Hi (HS0.out.kept hb2)
 replace HB:=Hi (HB.out.trans (hb2.mono HB.out.size))
 clear hb2
 go_wp2_with (refine wpList_load_opG otP (by kernel_rfl) _ rfl _ rfl x q c HO.out ?_)
 refine (oright_any x q c _ HSZ.out HP.out).mono ?_
 rw [HRT.out]
 rintro e w3 ⟨rfl,hb3⟩
 replace HP:=Hi (HP.out.kept hb3)
 replace HO:=Hi (HO.out.kept hb3)
 replace HS0:=Hi (HS0.out.kept hb3)
 replace HB:=Hi (HB.out.trans (hb3.mono HB.out.size))
 clear hb3
 have HLW:=Hi (HL.out.kept HB.out)
 have HLP:=Hi (show P<w.heap.size from (HL.out.box).lt)
 have HLM:=Hi (show M3<w.heap.size from (HL.out.o).lt)
 have y0:w3.cell? ⟨w.heap.size+1,0,none⟩=some (.int .i64 6):=by rw [← HK.out]; exact HO.out.cell 0
 go_upto_region 10 with fail
 clear y0
 refine wp_region_held_drew (S:=fun W=>Turns (fun k=>k=M3) w3 W) (by kernel_rfl) (Turns.of_below (Below.drew (Below.refl _ _))) (fun hS=>?_)
 refine tX 0 rfl hS ?_
 refine tX 1 rfl hS ?_
 refine tX 2 rfl hS ?_
 refine tK 3 (v:=?_) rfl ?_ hS ?_
 rotate_left
 ·intro W hSW
  have y0:=(HLW.out.box.turn hSW (HLW.out.p3)).cell 2
  have y0:W.cell? ⟨P,2,none⟩=some (.map (some M3)):=y0
  go_simp
  all_goals with_reducible rfl
 go_simp
 refine tX 4 rfl hS ?_
 go_simp
 refine tK 5 (v:=.agg #[.int .i64 x.nt,.int .i64 x.nr]) rfl (fun W hSW=>exec_load_pp stT rfl rfl (HO.out.turn hSW (by have:=HLM.out; omega)) [.int .i64 x.nt,.int .i64 x.nr] (by intro j v hv; match j,hv with | 0,hv=>exact hv | 1,hv=>exact hv) rfl) hS ?_
 refine tX 6 rfl hS ?_
 refine tK 7 (v:=?_) rfl ?_ hS ?_
 rotate_left
 ·intro W hSW
  have y0:W.cell? ⟨w.heap.size+1,6,none⟩=some (.slice q x.path.length c):=(HO.out.turn hSW (by have:=HLM.out; omega)).cell 6
  go_simp
  all_goals with_reducible rfl
 refine tX 8 rfl hS ?_
 go_simp
 refine tK 9 (v:=?_) rfl ?_ hS ?_
 rotate_left
 ·intro W hSW
  have y0:W.cell? ⟨w.heap.size+1,7,none⟩=some (.int .i64 x.p):=(HO.out.turn hSW (by have:=HLM.out; omega)).cell 7
  go_simp
  all_goals with_reducible rfl
 go_simp
 refine tK 11 (v:=.agg #[.int .i64 s1,.int .i64 s2]) rfl (fun W hSW=>exec_load_ag stT rfl rfl rfl (HS0.out.turn hSW (by have:=HLM.out; omega))) hS ?_
 refine tX 12 rfl hS ?_
 go_simp
 refine tK 13 (v:=.agg #[.int .i64 x.vk,.int .i64 x.vn,.string x.vt]) rfl (fun W hSW=>exec_load_pp vA rfl rfl (HO.out.turn hSW (by have:=HLM.out; omega)) [.int .i64 x.vk,.int .i64 x.vn,.string x.vt] (by intro j v hv; match j,hv with | 0,hv=>exact hv | 1,hv=>exact hv | 2,hv=>exact hv) rfl) hS ?_
 go_simp
 refine rD 10 rfl (fun K hK=>?_)
 go_simp
 go_wp2_with ((go_at_call 230; refine (overOf_any (x.nt,x.nr) q x.path c x.p _ (HP.out.kept (Below.drew (Below.refl _ _))).rd).mono ?_; rintro e wn ⟨rfl,hbn⟩))
 have HBW:=Hi (show Below w3.heap.size w3 wn from (Below.drew (Below.refl _ _)).trans (hbn.mono (Nat.le_refl _)))
 refine hK.out _ _ (Turns.of_below HBW.out) (fun hS=>?_)
 clear hK K hbn
 refine rD 14 rfl (fun K hK=>?_)
 go_simp
 go_wp2_with ((go_at_call 269; refine (writeO_any M3 r.o (Pm.nameO (x.nt,x.nr) x.path x.p) (s1,s2) (x.vk,x.vn,x.vt) _ (HLW.out.kept HBW.out).o HWF.out).mono ?_; rintro e wm ⟨rfl,hrm,htm⟩))
 have HT:=Hi (show Turns (fun k=>k=M3) w3 wm from (Turns.of_below HBW.out).trans (htm.mono fun _ _ h=>Or.inl h))
 have HRM:=Hi hrm
 refine hK.out _ _ HT.out (fun hS=>?_)
 clear hK K hrm htm
 refine wpAnyH_done (by kernel_rfl) ?_ _
 go_simp
 have HE:=Hi (show Done P M1 M2 M3 r ⟨(s1,s2),x⟩ w (.returned (.int .i64 0)) wm from ⟨by
  unfold Pm.doE
  rw [if_pos HOK.out,if_pos (by rw [HK.out]; decide)],by
  rw [Pm.doR_O HOK.out HK.out]
  exact ⟨HLW.out.box.turn HT.out HLW.out.p3,HLW.out.v.turns HT.out HLW.out.n13,HLW.out.m.turns HT.out HLW.out.n23,HRM.out,HLW.out.p1,HLW.out.p2,HLW.out.p3,HLW.out.n12,HLW.out.n13,HLW.out.n23⟩,(Turns.of_below HB.out).trans (HT.out.mono fun _ _ h=>Or.inl (Or.inr (Or.inr h)))⟩)
 clear hS HT HRM HLW HL
 go_wp2
 go_ret
 exact HE.out
theorem do_any {P M1 M2 M3:Nat} {r:Pm.Rs} (s:Qm.St) (x:Opp) (q:Option Addr) (c:Nat) (w:World) (h:PLay w P M1 M2 M3 r) (hs:Sz x) (ha:Pa w x q c) :
  Calls Tryz.prog 205 #[.pointer (some ⟨P,0,none⟩),.agg #[.int .i64 s.1,.int .i64 s.2],.agg (opA x q c)] w (Done P M1 M2 M3 r ⟨s,x⟩ w):=by
 cases hn:okNode s.1 s.2 with
 | false=>exact do0_any s x q c w h hs ha hn
 | true =>
  cases hr:rightO x with
  | false=>exact do1_any s x q c w h hs ha hn hr
  | true =>
   by_cases k3:x.k=3
   ·exact doV_any s x q c w h hs ha hn hr k3
   by_cases k4:x.k=4
   ·exact doM_any s x q c w h hs ha hn hr k4
   by_cases k6:x.k=6
   ·exact doO_any s x q c w h hs ha hn hr k6
   exact doK_any s x q c w h hs ha hn hr k3 k4 k6
open Go.RowKit
theorem vl_eqB (p q:Pm.Vl):((p.1 == q.1) && ((p.2.1 == q.2.1) && (p.2.2.toList == q.2.2.toList)))=decide (p=q):=by
 have:=vl_neB p q
 exact Bool.not_inj this
theorem run_build_vl0 (w:World):(Instr.build 38 #[]).run Tryz.prog w=.ok (.agg #[.int .i64 0,.int .i64 0,.string ⟨#[]⟩]) w:=by kernel_rfl
theorem value_no (v:Value) (n:Qm.St) (p:Int) (w:World) (h:NoR w v) :
  Calls Tryz.prog 136 #[v,.agg #[.int .i64 n.1,.int .i64 n.2],.int .i64 p] w fun e w'=>e=.returned (.agg (vlA Pm.z0))∧Below w.heap.size w w':=by
 obtain ⟨n1,n2⟩:=n
 have HL:=Hi h
 have HN0:=Hi ((AgAt.new w #[.int .i64 n1,.int .i64 n2] 35).kept ((Below.refl _ _).alloc (Nat.le_refl _) (.cells #[.int .i64 0,.int .i64 0,.string ⟨#[]⟩] 38)))
 have HZ:=Hi (AgAt.new (w.alloc (.cells #[.int .i64 n1,.int .i64 n2] 35)) #[.int .i64 0,.int .i64 0,.string ⟨#[]⟩] 38)
 rw [World.size_alloc] at HZ
 have HB:=Hi (((Below.refl w.heap.size w).alloc (Nat.le_refl _) (.cells #[.int .i64 n1,.int .i64 n2] 35)).alloc (by simp) (.cells #[.int .i64 0,.int .i64 0,.string ⟨#[]⟩] 38))
 have hbv:=run_build_vl0
 clear h
 go_enter Tryz.func136,Tryz.ntmps136
 go_wp2_with fail
 refine (pours_no _ _ (HL.out.kept HB.out)).mono ?_
 rintro e w1 ⟨rfl,rfl⟩
 go_wp2
 refine bodyPost_ret (results_ag vA _ rfl rfl HZ.out rfl) rfl ?_
 exact ⟨rfl,HB.out⟩
theorem marked_no (v:Value) (n:Qm.St) (w:World) (h:NoR w v) :
  Calls Tryz.prog 137 #[v,.agg #[.int .i64 n.1,.int .i64 n.2]] w fun e w'=>e=.returned (.bool false)∧Below w.heap.size w w':=by
 obtain ⟨n1,n2⟩:=n
 have HL:=Hi h
 have HB:=Hi ((Below.refl w.heap.size w).alloc (Nat.le_refl _) (.cells #[.int .i64 n1,.int .i64 n2] 35))
 clear h
 go_enter Tryz.func137,Tryz.ntmps137
 go_upto_region 1 with fail
 generalize w.alloc (.cells #[.int .i64 n1,.int .i64 n2] 35)=wd at *
 refine wp_region_held_drew (S:=fun W=>Below wd.heap.size wd W) (by kernel_rfl) (Below.drew (Below.refl _ _)) (fun hS=>?_)
 refine tX 0 rfl hS ?_
 go_simp
 refine rD 1 rfl (fun K hK=>?_)
 go_simp
 go_wp2_with ((go_at_call 195; refine (pours_no _ _ (HL.out.kept (HB.out.trans (hS.mono HB.out.size)))).mono ?_; rintro e wn ⟨rfl,rfl⟩))
 refine hK.out _ _ hS (fun hS=>?_)
 clear hK K
 refine tX 2 rfl hS ?_
 go_simp
 refine tU 3 rfl hS ?_
 go_simp
 refine tU 4 rfl hS ?_
 go_simp
 refine tU 5 rfl hS ?_
 go_simp
 refine tU 6 rfl hS ?_
 go_simp
 refine tU 7 rfl hS ?_
 go_simp
 refine tU 8 rfl hS ?_
 refine tX 9 rfl hS ?_
 refine tX 10 rfl hS ?_
 go_simp
 refine wpAnyH_done (by kernel_rfl) ?_ _
 go_simp
 have HN:=Hi (HB.out.trans (hS.mono HB.out.size))
 clear hS
 go_wp2
 go_ret
 exact ⟨rfl,HN.out⟩
theorem flag_any {P M1 M2 M3:Nat} {r:Pm.Rs} (n:Qm.St) (p:Int) (w:World) (h:PLay w P M1 M2 M3 r) (hx:KWf 3 (Pm.nameV n p)) :
  Calls Tryz.prog 139 #[.pointer (some ⟨P,0,none⟩),.agg #[.int .i64 n.1,.int .i64 n.2],.int .i64 p] w fun e w'=>e=.returned (.bool (decide ((r.v (Pm.nameV n p)).2=(4,1,⟨#[]⟩))))∧Below w.heap.size w w':=by
 obtain ⟨n1,n2⟩:=n
 have HN0:=Hi (AgAt.new w #[.int .i64 n1,.int .i64 n2] 35)
 have HB:=Hi ((Below.refl w.heap.size w).alloc (Nat.le_refl _) (.cells #[.int .i64 n1,.int .i64 n2] 35))
 have HC:=Hi (fun W (hb:Below w.heap.size w W)=>value_any (n1,n2) p W (h.kept hb) hx)
 clear h
 generalize (r.v (Pm.nameV (n1,n2) p)).2=u at *
 have hbl:∀ W:World,(Instr.build 38 #[(0,.int .i64 4),(1,.int .i64 1)]).run Tryz.prog W=.ok (.agg #[.int .i64 4,.int .i64 1,.string ⟨#[]⟩]) W:=fun W=>by kernel_rfl
 go_enter Tryz.func139,Tryz.ntmps139
 go_wp2_with (refine wpList_load_ag stT rfl _ rfl _ rfl (A:=#[.int .i64 n1,.int .i64 n2]) rfl HN0.out ?_)
 refine (HC.out _ HB.out).mono ?_
 rintro e w1 ⟨rfl,hb1⟩
 replace HB:=Hi (HB.out.trans (hb1.mono HB.out.size))
 clear hb1
 have HD:=Hi (vl_eqB u (4,1,⟨#[]⟩))
 obtain ⟨u1,u2,u3⟩:=u
 dsimp only at HD
 have he:(⟨#[]⟩:ByteArray).toList=[]:=by rw [ByteArray.toList_eq]
 rw [he] at HD
 go_wp2
 all_goals go_ret
 all_goals refine ⟨?_,HB.out⟩
 all_goals rw [← HD.out]
 all_goals simp [*]
theorem over_no (v:Value) (n:Qm.St) (q:Option Addr) (l:List Qm.St) (c:Nat) (p:Int) (w:World) (h:NoR w v) :
  Calls Tryz.prog 135 #[v,.agg #[.int .i64 n.1,.int .i64 n.2],.slice q l.length c,.int .i64 p] w fun e w'=>e=.returned (.tuple #[.agg (vlA Pm.z0),.bool false])∧Below w.heap.size w w':=by
 obtain ⟨n1,n2⟩:=n
 have HL:=Hi h
 have HN0:=Hi ((AgAt.new w #[.int .i64 n1,.int .i64 n2] 35).kept ((Below.refl _ _).alloc (Nat.le_refl _) (.cells #[.int .i64 0,.int .i64 0,.string ⟨#[]⟩] 38)))
 have HZ:=Hi (AgAt.new (w.alloc (.cells #[.int .i64 n1,.int .i64 n2] 35)) #[.int .i64 0,.int .i64 0,.string ⟨#[]⟩] 38)
 rw [World.size_alloc] at HZ
 have HB:=Hi (((Below.refl w.heap.size w).alloc (Nat.le_refl _) (.cells #[.int .i64 n1,.int .i64 n2] 35)).alloc (by simp) (.cells #[.int .i64 0,.int .i64 0,.string ⟨#[]⟩] 38))
 have hbv:=run_build_vl0
 clear h
 go_enter Tryz.func135,Tryz.ntmps135
 go_wp2_with fail
 refine (pours_no _ _ (HL.out.kept HB.out)).mono ?_
 rintro e w1 ⟨rfl,rfl⟩
 go_wp2
 refine bodyPost_ret (results_two vA _ rfl rfl HZ.out rfl rfl) rfl ?_
 exact ⟨rfl,HB.out⟩
end Go.Proofs.YthfhefdfehlbkaaGreat

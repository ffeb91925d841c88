/-
  lift: a spot less.
  No conditions but sizes.
  The program's Spot, Add and Drop.
  No conditions but sizes.
  REGISTERS, PLAINLY: names, what a write leaves, no order; the document's list of all that was written.
  No conditions.
-/
import Derived.Test.YthfhefdfehlbkaaGreatSh
import Derived.Test.YthfhefdfehlbkaaGreatK12
import Derived.Laws.ResultCell
import Derived.Test.YthfhefdfehlbkaaGreatK03
set_option maxRecDepth 100000
set_option maxHeartbeats 8000000
namespace Go.Proofs.YthfhefdfehlbkaaGreat
open Go.RowKit
open Tm (Sp Tr has put cut kids)
theorem nodes_filter (l:List Qm.St) (n:Qm.St):(nodesOf l).filter (fun e=>!(e.1 == n))=nodesOf (l.filter fun m=>!(m == n)):=by
 unfold nodesOf
 rw [List.filter_map]
 rfl
theorem kidOf_setKid (C:List Kid) (p q:Qm.St) (f:List Qm.St→List Qm.St):kidOf (setKid C p f) q=kidOf C q:=by
 unfold kidOf setKid
 induction C with
 | nil=>rfl
 | cons a C ih =>
  have h1:(if a.p=p then { a with l:=f a.l } else a:Kid).p=a.p:=by split <;> rfl
  have h2:(if a.p=p then { a with l:=f a.l } else a:Kid).b=a.b:=by split <;> rfl
  rw [List.map_cons,List.find?_cons,List.find?_cons,h1]
  by_cases e:(a.p == q)=true
  ·rw [e]
   simp [h2]
  ·rw [Bool.not_eq_true] at e
   rw [e]
   exact ih
theorem setKid_at {C:List Kid} {p:Qm.St} {f:List Qm.St→List Qm.St} {c:Kid} (h:c ∈ C) (hp:c.p=p):∃ c' ∈ setKid C p f,c'.b=c.b∧c'.l=f c.l:=by
 refine ⟨_,List.mem_map.2 ⟨c,h,rfl⟩,?_⟩
 rw [if_pos hp]
 exact ⟨rfl,rfl⟩
section
variable {w w':World} {P M1 M2:Nat} {T:Tr} {C:List Kid} {F G:Nat→Prop}
theorem Mem.cutSpot {n:Qm.St} (h:Mem w P M1 M2 T C F) (hm:SMap w' M1 ((Go.Proofs.YthfhefdfehlbkaaGreat.spots T).filter fun e=>!(e.1 == n))) (ht:Turns (fun k=>k=M1) w w'):Mem w' P M1 M2 (cut T n) C F :=
 ⟨h.at_.block (ht.block _ (h.lt _ h.fP) h.ne.1),by unfold Go.Proofs.YthfhefdfehlbkaaGreat.spots cut at *; rw [List.filter_map] at hm; exact hm,h.below.turns ht fun e=>h.ne.2.2 e.symm,fun c hc=>(h.inner c hc).turns ht (h.kne c hc).2.1,h.fP,h.f1,h.f2,h.fK,h.ne,h.kne,h.knd,
  fun k hk=>Nat.lt_of_lt_of_le (h.lt k hk) ht.size⟩
theorem Mem.cutKid {p:Qm.St} (h:Mem w P M1 M2 T C F) (hm:SMap w' M2 ((belows C).filter fun e=>!(e.1 == p))) (ht:Turns (fun k=>k=M2) w w'):Mem w' P M1 M2 T (C.filter fun c=>!(c.p == p)) F:=by
 refine ⟨h.at_.block (ht.block _ (h.lt _ h.fP) h.ne.2.1),h.spots.turns ht h.ne.2.2,by unfold belows at *; rw [List.filter_map] at hm; exact hm,fun c hc=>?_,h.fP,h.f1,h.f2,fun c hc=>h.fK c (List.mem_filter.1 hc).1,h.ne,fun c hc=>h.kne c (List.mem_filter.1 hc).1,
  (List.filter_sublist.map Kid.b).nodup h.knd,fun k hk=>Nat.lt_of_lt_of_le (h.lt k hk) ht.size⟩
 have hc':=(List.mem_filter.1 hc).1
 exact (h.inner c hc').turns ht (h.kne c hc').2.2
theorem kids_cut {T:Tr} {n q:Qm.St} {m:Qm.St}:m ∈ kids (cut T n) q↔m ∈ kids T q∧m≠n:=by
 rw [Tm.kids_mem,Tm.kids_mem]
 constructor
 ·rintro ⟨s,h1,h2⟩
  obtain ⟨h3,h4⟩:=Tm.mem_cut.1 h1
  exact ⟨⟨s,h3,h2⟩,h4⟩
 ·rintro ⟨⟨s,h1,h2⟩,h3⟩
  exact ⟨s,Tm.mem_cut.2 ⟨h1,h3⟩,h2⟩
theorem Lay.cutFull (h:Lay w P M1 M2 T C F) {n:Qm.St} {s:Sp} (hl:Tm.look T n=some s) :
  (∀ c ∈ setKid C s.1 (fun l=>l.filter fun m=>!(m == n)),(c.p≠s.1→c.l ≠ [])∧∀ m,m ∈ c.l↔m ∈ kids (cut T n) c.p)∧∀ e ∈ cut T n,∃ c ∈ setKid C s.1 (fun l=>l.filter fun m=>!(m == n)),c.p=e.2.1:=by
 have honly:∀ q,n ∈ kids T q→q=s.1:=fun q hq=>by
  obtain ⟨s',h1,h2⟩:=Tm.kids_mem.1 hq
  have:=Tm.look_some h.nd h1
  rw [hl] at this
  cases this
  exact h2.symm
 constructor
 ·intro c' hc'
  obtain ⟨c,hc,h1,h2,h3,h4⟩:=mem_setKid hc'
  by_cases e:c.p=s.1
  ·refine ⟨fun hh=>absurd (h1.trans e) hh,fun m=>?_⟩
   rw [h3 e,h1,kids_cut,List.mem_filter,(h.full c hc).2 m]
   simp
  ·obtain rfl:=h4 e
   refine ⟨fun _=>(h.full c' hc).1,fun m=>?_⟩
   rw [kids_cut,(h.full c' hc).2 m]
   exact ⟨fun hm=>⟨hm,fun hh=>e (honly _ (by rw [← hh]; exact hm))⟩,fun hm=>hm.1⟩
 ·intro e he
  obtain ⟨c,hc,h1⟩:=h.all e (Tm.mem_cut.1 he).1
  obtain ⟨c',hc',h2⟩:=setKid_mem (p:=s.1) (f:=fun l=>l.filter fun m=>!(m == n)) hc
  exact ⟨c',hc',h2.trans h1⟩
theorem Lay.cutY (h:Lay w P M1 M2 T C F) {n:Qm.St} {s:Sp} (hl:Tm.look T n=some s) {kc:Kid} (hk:kc ∈ C) (hp:kc.p=s.1) (h0:(kc.l.filter fun m=>!(m == n)).length=0) :
  (∀ c ∈ (setKid C s.1 (fun l=>l.filter fun m=>!(m == n))).filter (fun c=>!(c.p == s.1)),c.l ≠ []∧∀ m,m ∈ c.l↔m ∈ kids (cut T n) c.p)∧∀ e ∈ cut T n,∃ c ∈ (setKid C s.1 (fun l=>l.filter fun m=>!(m == n))).filter (fun c=>!(c.p == s.1)),c.p=e.2.1:=by
 obtain ⟨h1,h2⟩:=h.cutFull hl
 constructor
 ·intro c hc
  obtain ⟨k1,k2⟩:=List.mem_filter.1 hc
  exact ⟨(h1 c k1).1 (by simpa using k2),(h1 c k1).2⟩
 ·intro e he
  obtain ⟨c,hc,k1⟩:=h2 e he
  refine ⟨c,List.mem_filter.2 ⟨hc,?_⟩,k1⟩
  have:c.p≠s.1:=fun hh=>by
   obtain ⟨c0,j1,j2,j3,j4,j5⟩:=mem_setKid hc
   have j6:c0=kc:=one_of h.cnd j1 hk (by rw [← j2,hh,hp])
   subst j6
   have j7:e.1 ∈ kids (cut T n) c.p:=Tm.kids_mem.2 ⟨e.2,he,k1.symm⟩
   have j8:=((h1 c hc).2 e.1).2 j7
   rw [j4 hp,List.eq_nil_of_length_eq_zero h0] at j8
   cases j8
  simpa using this
theorem Lay.cutN (h:Lay w P M1 M2 T C F) {n:Qm.St} {s:Sp} (hl:Tm.look T n=some s) {kc:Kid} (hk:kc ∈ C) (hp:kc.p=s.1) (h0:(kc.l.filter fun m=>!(m == n)).length≠0) :
  (∀ c ∈ setKid C s.1 (fun l=>l.filter fun m=>!(m == n)),c.l ≠ []∧∀ m,m ∈ c.l↔m ∈ kids (cut T n) c.p)∧∀ e ∈ cut T n,∃ c ∈ setKid C s.1 (fun l=>l.filter fun m=>!(m == n)),c.p=e.2.1:=by
 obtain ⟨h1,h2⟩:=h.cutFull hl
 refine ⟨fun c hc=>⟨?_,(h1 c hc).2⟩,h2⟩
 by_cases e:c.p=s.1
 ·obtain ⟨c0,j1,j2,j3,j4,j5⟩:=mem_setKid hc
  have j6:c0=kc:=one_of h.cnd j1 hk (by rw [← j2,e,hp])
  subst j6
  rw [j4 hp]
  exact fun hh=>h0 (by rw [hh]; rfl)
 ·exact (h1 c hc).1 e
end
def Lifted (P M1 M2:Nat) (T:Tr) (F:Nat→Prop) (n:Qm.St) (w:World) (e:Ending) (w':World):Prop :=
 e=.returned (.tuple #[])∧∃ C',Lay w' P M1 M2 (cut T n) C' F∧Turns F w w'
theorem lift_any {P M1 M2:Nat} {T:Tr} {C:List Kid} {F:Nat→Prop} (n:Qm.St) (s:Sp) (w:World) (h:Lay w P M1 M2 T C F) (hs:StWf s.1) (hl:Tm.look T n=some s) :
  Calls Tryz.prog 322 #[.pointer (some ⟨P,0,none⟩),snV n,spV s] w (Lifted P M1 M2 T F n w):=by
 have h1:∀ (w:World) (o:Obj),Below w.heap.size w (w.alloc o):=fun w o=>(Below.refl _ _).alloc (Nat.le_refl _) _
 have hb:=(h1 w (.cells #[.int .i64 n.1,.int .i64 n.2] 35)).trans ((h1 (w.alloc (.cells #[.int .i64 n.1,.int .i64 n.2] 35)) (.cells (spA s) 106)).mono (by simp))
 have HB0:=Hi ((AgAt.new w #[.int .i64 n.1,.int .i64 n.2] 35).kept (h1 _ (.cells (spA s) 106)))
 have HB1:=Hi (show AgAt ((w.alloc (.cells #[.int .i64 n.1,.int .i64 n.2] 35)).alloc (.cells (spA s) 106)) (w.heap.size+1) (spA s) from by
  have:=AgAt.new (w.alloc (.cells #[.int .i64 n.1,.int .i64 n.2] 35)) (spA s) 106
  rw [show (w.alloc (.cells #[.int .i64 n.1,.int .i64 n.2] 35)).heap.size=w.heap.size+1 from by simp] at this
  exact this)
 have HLT:=Hi h.lt
 have HM:=Hi (h.toMem.kept hb)
 have HT:=Hi (Turns.of_below (F:=F) hb)
 have HWN:=Hi (h.wf _ (Tm.look_mem hl))
 have HWS:=Hi hs
 have HIN:=Hi (show (lk (spots T) n).isSome=true from by rw [lk_spots,hl]; rfl)
 obtain ⟨kc,hk1,hk2⟩:=h.all _ (Tm.look_mem hl)
 dsimp only at hk2
 obtain ⟨kb,hkb⟩:∃ b,b=kc.b:=⟨_,rfl⟩
 have HKC:=Hi (show kc ∈ C∧kc.b=kb∧kc.p=s.1 from ⟨hk1,hkb.symm,hk2⟩)
 have HKO:=Hi (show kidOf C s.1=some kb from by rw [← hk2,hkb]; exact kidOf_of h.cnd hk1)
 have HNN:=Hi (show (lk (nodesOf kc.l) n).isSome=true from by
  rw [lk_nodes,if_pos (((h.full kc hk1).2 n).2 (Tm.kids_mem.2 ⟨s,Tm.look_mem hl,hk2.symm⟩))]
  rfl)
 have HCY:=Hi (h.cutY hl hk1 hk2)
 have HCN:=Hi (h.cutN hl hk1 hk2)
 have HLK:=Hi (show (lk (belows (setKid C s.1 fun l=>l.filter fun m=>!(m == n))) s.1).isSome=true from by
  rw [belows_setKid,lk_some (v:=.map (some kc.b)) h.toMem.below.nd (by rw [← hk2]; exact List.mem_map.2 ⟨kc,hk1,rfl⟩)]
  rfl)
 clear h hb hs hl h1 hk1 hk2 hkb
 by_cases h0:(kc.l.filter fun m=>!(m == n)).length=0
 ·have HTI:=Hi (HCY.out h0)
  have HD0:=Hi (show ((((nodesOf (kc.l.filter fun m=>!(m == n))).length:Nat):Int) == 0)=true from by unfold nodesOf; rw [List.length_map,h0]; rfl)
  clear h0 HCY HCN
  go_enter Tryz.func322,Tryz.ntmps322
  go_upto_region 1 with fail
  generalize (w.alloc (.cells #[.int .i64 n.1,.int .i64 n.2] 35)).alloc (.cells (spA s) 106)=w1 at *
  have hbd:=Below.drew (Below.refl w1.heap.size w1)
  replace HM:=Hi (HM.out.kept hbd)
  replace HB0:=Hi (AgAt.kept HB0.out hbd)
  replace HB1:=Hi (AgAt.kept HB1.out hbd)
  replace HT:=Hi (HT.out.trans (Turns.of_below hbd))
  refine wp_region_held_drew (S:=fun W=>AgAt W P #[.map (some M1),.map (some M2)]∧AgAt W w.heap.size #[.int .i64 n.1,.int .i64 n.2]) (by kernel_rfl) ⟨HM.out.at_,HB0.out⟩ (fun hS=>?_)
  clear hbd
  generalize w1.drew=w1 at *
  refine tX 0 rfl hS ?_
  refine tX 1 rfl hS ?_
  refine tX 2 rfl hS ?_
  refine tK 3 (v:=?_) rfl ?_ hS ?_
  rotate_left
  ·intro W hSW
   have y0:W.cell? ⟨P,0,none⟩=some (.map (some M1)):=by rw [AgAt.cell hSW.1 0]; rfl
   go_simp
   all_goals with_reducible rfl
  go_simp
  refine tK 4 (v:=snV n) rfl (fun W hSW=>exec_load_ag stT rfl rfl rfl hSW.2) hS ?_
  go_simp
  refine rD 5 rfl (fun K hK=>?_)
  obtain ⟨w6,hrun,hm6,ht6,hz6⟩:=HM.out.spots.del mtSpots n HWN.out HIN.out
  have HG:=Hi (HM.out.cutSpot hm6 ht6)
  have HNE:=Hi (show P≠M1∧w.heap.size≠M1∧w.heap.size+1≠M1 from ⟨HM.out.ne.1,by have:=HLT.out _ HM.out.f1; omega,by have:=HLT.out _ HM.out.f1; omega⟩)
  replace HB0:=Hi (AgAt.block HB0.out (ht6.block _ (AgAt.lt HB0.out) HNE.out.2.1))
  replace HB1:=Hi (AgAt.block HB1.out (ht6.block _ (AgAt.lt HB1.out) HNE.out.2.2))
  replace HT:=Hi (HT.out.trans (ht6.mono fun k _ hk=>Or.inl (by subst hk; exact HM.out.f1)))
  refine step_of (by kernel_rfl) ?_
  refine wp_delete _ _ 237 35 rfl (.map (some M1)) (snV n) rfl rfl w6 (hrun _) ?_
  refine hK.out _ _ ⟨AgAt.block hS.1 (ht6.block _ (AgAt.lt hS.1) HNE.out.1),AgAt.block hS.2 (ht6.block _ (AgAt.lt hS.2) HNE.out.2.1)⟩ (fun hS=>?_)
  clear hK K hrun hm6 ht6 hz6 HNE HM
  refine wpAnyH_done (by kernel_rfl) ?_ _
  go_simp
  clear hS
  go_upto_region 2 with fail
  have hbd:=Below.drew (Below.refl w6.heap.size w6)
  replace HG:=Hi (HG.out.kept hbd)
  replace HB0:=Hi (AgAt.kept HB0.out hbd)
  replace HB1:=Hi (AgAt.kept HB1.out hbd)
  replace HT:=Hi (HT.out.trans (Turns.of_below hbd))
  have HKI:=Hi (show SMap w6.drew kb (nodesOf kc.l) from by have:=HG.out.inner kc HKC.out.1; rw [HKC.out.2.1] at this; exact this)
  refine wp_region_held_drew (S:=fun W=>AgAt W P #[.map (some M1),.map (some M2)]∧AgAt W w.heap.size #[.int .i64 n.1,.int .i64 n.2]∧AgAt W (w.heap.size+1) (spA s)∧SMap W M2 (belows C)) (by kernel_rfl) ⟨HG.out.at_,HB0.out,HB1.out,HG.out.below⟩ (fun hS=>?_)
  clear hbd
  generalize w6.drew=wb at *
  refine tX 0 rfl hS ?_
  refine tX 1 rfl hS ?_
  refine tX 2 rfl hS ?_
  refine tK 3 (v:=?_) rfl ?_ hS ?_
  rotate_left
  ·intro W hSW
   have y1:W.cell? ⟨P,1,none⟩=some (.map (some M2)):=by rw [AgAt.cell hSW.1 1]; rfl
   go_simp
   all_goals with_reducible rfl
  go_simp
  refine tX 4 rfl hS ?_
  go_simp
  refine tK 5 (v:=snV s.1) rfl (fun W hSW=>exec_load_part stT rfl rfl [.int .i64 s.1.1,.int .i64 s.1.2] rfl (hSW.2.2.1) spPar) hS ?_
  go_simp
  refine tK 6 (v:=.map (some kb)) rfl (fun W hSW=>exec_lookup rfl rfl rfl ((hSW.2.2.2.look mtBelow s.1 HWS.out).trans (by rw [lk_belows,HKO.out]))) hS ?_
  go_simp
  refine tK 7 (v:=snV n) rfl (fun W hSW=>exec_load_ag stT rfl rfl rfl hSW.2.1) hS ?_
  go_simp
  refine rD 8 rfl (fun K hK=>?_)
  obtain ⟨w7,hrun,hm7,ht7,hz7⟩:=HKI.out.del mtSet n HWN.out HNN.out
  have HJ:=Hi (HG.out.setKid (f:=fun l=>l.filter fun m=>!(m == n)) HKC.out.1 HKC.out.2.1 (by rw [← nodes_filter]; exact hm7) ht7)
  have HNE:=Hi (show P≠kb∧w.heap.size≠kb∧w.heap.size+1≠kb∧M2≠kb from by
   have h1:=HG.out.kne _ HKC.out.1
   rw [HKC.out.2.1] at h1
   have h2:=HLT.out kb (by have:=HG.out.fK _ HKC.out.1; rw [HKC.out.2.1] at this; exact this)
   exact ⟨fun h=>h1.1 h.symm,by omega,by omega,fun h=>h1.2.2 h.symm⟩)
  replace HB0:=Hi (AgAt.block HB0.out (ht7.block _ (AgAt.lt HB0.out) HNE.out.2.1))
  replace HB1:=Hi (AgAt.block HB1.out (ht7.block _ (AgAt.lt HB1.out) HNE.out.2.2.1))
  replace HT:=Hi (HT.out.trans (ht7.mono fun k _ hk=>by
   subst hk
   exact Or.inl (by have:=HG.out.fK _ HKC.out.1; rw [HKC.out.2.1] at this; exact this)))
  refine step_of (by kernel_rfl) ?_
  refine wp_delete _ _ 242 35 rfl (.map (some kb)) (snV n) rfl rfl w7 (hrun _) ?_
  refine hK.out _ _ ⟨AgAt.block hS.1 (ht7.block _ (AgAt.lt hS.1) HNE.out.1),AgAt.block hS.2.1 (ht7.block _ (AgAt.lt hS.2.1) HNE.out.2.1),AgAt.block hS.2.2.1 (ht7.block _ (AgAt.lt hS.2.2.1) HNE.out.2.2.1),hS.2.2.2.block (ht7.block _ hS.2.2.2.lt HNE.out.2.2.2)⟩ (fun hS=>?_)
  clear hK K hrun hm7 ht7 hz7 HNE HG HKI HNN
  refine wpAnyH_done (by kernel_rfl) ?_ _
  go_simp
  clear hS
  rw [HKC.out.2.2] at HJ
  go_upto_region 3 with fail
  have hbd:=Below.drew (Below.refl w7.heap.size w7)
  replace HJ:=Hi (HJ.out.kept hbd)
  replace HB0:=Hi (AgAt.kept HB0.out hbd)
  replace HB1:=Hi (AgAt.kept HB1.out hbd)
  replace HT:=Hi (HT.out.trans (Turns.of_below hbd))
  have HKJ:=Hi (show SMap w7.drew kb (nodesOf (kc.l.filter fun m=>!(m == n))) from by
   obtain ⟨c',h1,h2⟩:=setKid_at (p:=s.1) (f:=fun l=>l.filter fun m=>!(m == n)) HKC.out.1 HKC.out.2.2
   have:=HJ.out.inner c' h1
   rw [h2.1,h2.2,HKC.out.2.1] at this
   exact this)
  refine wp_region_held_drew (S:=fun W=>Below w7.drew.heap.size w7.drew W) (by kernel_rfl) (Below.refl _ _) (fun hS=>?_)
  clear hbd
  generalize w7.drew=wc at *
  refine tX 0 rfl hS ?_
  refine tX 1 rfl hS ?_
  refine tX 2 rfl hS ?_
  refine tK 3 (v:=?_) rfl ?_ hS ?_
  rotate_left
  ·intro W hSW
   have y1:=(HJ.out.kept hSW).cell1
   go_simp
   all_goals with_reducible rfl
  go_simp
  refine tX 4 rfl hS ?_
  go_simp
  refine tK 5 (v:=snV s.1) rfl (fun W hSW=>exec_load_part stT rfl rfl [.int .i64 s.1.1,.int .i64 s.1.2] rfl (AgAt.kept HB1.out hSW) spPar) hS ?_
  go_simp
  refine tK 6 (v:=.map (some kb)) rfl (fun W hSW=>exec_lookup rfl rfl rfl (((HJ.out.kept hSW).lookB s.1 HWS.out).trans (by rw [kidOf_setKid,HKO.out]))) hS ?_
  refine tK 7 (v:=?_) rfl ?_ hS ?_
  rotate_left
  ·intro W hSW
   have hln:=(HKJ.out.below hSW).len mtSet 3
   go_simp
   all_goals with_reducible rfl
  refine tK 8 (v:=?_) rfl ?_ hS ?_
  rotate_left
  ·intro W hSW
   have d0:=HD0.out
   go_simp
   all_goals with_reducible rfl
  go_simp
  refine wpAnyH_done (by kernel_rfl) ?_ _
  go_simp
  clear hS HKJ HD0
  go_upto_region 4 with fail
  have hbd:=Below.drew (Below.refl wc.heap.size wc)
  replace HJ:=Hi (HJ.out.kept hbd)
  replace HB0:=Hi (AgAt.kept HB0.out hbd)
  replace HB1:=Hi (AgAt.kept HB1.out hbd)
  replace HT:=Hi (HT.out.trans (Turns.of_below hbd))
  refine wp_region_held_drew (S:=fun W=>AgAt W P #[.map (some M1),.map (some M2)]∧AgAt W (w.heap.size+1) (spA s)) (by kernel_rfl) ⟨HJ.out.at_,HB1.out⟩ (fun hS=>?_)
  clear hbd
  generalize wc.drew=wd at *
  refine tX 0 rfl hS ?_
  refine tX 1 rfl hS ?_
  refine tX 2 rfl hS ?_
  refine tK 3 (v:=?_) rfl ?_ hS ?_
  rotate_left
  ·intro W hSW
   have y1:W.cell? ⟨P,1,none⟩=some (.map (some M2)):=by rw [AgAt.cell hSW.1 1]; rfl
   go_simp
   all_goals with_reducible rfl
  go_simp
  refine tX 4 rfl hS ?_
  go_simp
  refine tK 5 (v:=snV s.1) rfl (fun W hSW=>exec_load_part stT rfl rfl [.int .i64 s.1.1,.int .i64 s.1.2] rfl (hSW.2) spPar) hS ?_
  go_simp
  refine rD 6 rfl (fun K hK=>?_)
  obtain ⟨w8,hrun,hm8,ht8,hz8⟩:=HJ.out.below.del mtBelow s.1 HWS.out HLK.out
  have HQ:=Hi (HJ.out.cutKid hm8 ht8)
  have HNE:=Hi (show P≠M2∧w.heap.size+1≠M2 from ⟨HJ.out.ne.2.1,by have:=HLT.out _ HJ.out.f2; omega⟩)
  replace HT:=Hi (HT.out.trans (ht8.mono fun k _ hk=>Or.inl (by subst hk; exact HJ.out.f2)))
  refine step_of (by kernel_rfl) ?_
  refine wp_delete _ _ 146 35 rfl (.map (some M2)) (snV s.1) rfl rfl w8 (hrun _) ?_
  refine hK.out _ _ ⟨AgAt.block hS.1 (ht8.block _ (AgAt.lt hS.1) HNE.out.1),AgAt.block hS.2 (ht8.block _ (AgAt.lt hS.2) HNE.out.2)⟩ (fun hS=>?_)
  clear hK K hrun hm8 ht8 hz8 HNE HJ
  refine wpAnyH_done (by kernel_rfl) ?_ _
  go_simp
  have HE:=Hi (show Lifted P M1 M2 T F n w (.returned (.tuple #[])) w8 from ⟨rfl,_,⟨HQ.out,HTI.out.1,HTI.out.2⟩,HT.out⟩)
  clear hS
  go_wp2
  go_end0
  exact HE.out
 ·have HTI:=Hi (HCN.out h0)
  have HD0:=Hi (show ((((nodesOf (kc.l.filter fun m=>!(m == n))).length:Nat):Int) == 0)=false from by unfold nodesOf; rw [List.length_map,beq_eq_false_iff_ne]; omega)
  clear h0 HCY HCN
  go_enter Tryz.func322,Tryz.ntmps322
  go_upto_region 1 with fail
  generalize (w.alloc (.cells #[.int .i64 n.1,.int .i64 n.2] 35)).alloc (.cells (spA s) 106)=w1 at *
  have hbd:=Below.drew (Below.refl w1.heap.size w1)
  replace HM:=Hi (HM.out.kept hbd)
  replace HB0:=Hi (AgAt.kept HB0.out hbd)
  replace HB1:=Hi (AgAt.kept HB1.out hbd)
  replace HT:=Hi (HT.out.trans (Turns.of_below hbd))
  refine wp_region_held_drew (S:=fun W=>AgAt W P #[.map (some M1),.map (some M2)]∧AgAt W w.heap.size #[.int .i64 n.1,.int .i64 n.2]) (by kernel_rfl) ⟨HM.out.at_,HB0.out⟩ (fun hS=>?_)
  clear hbd
  generalize w1.drew=w1 at *
  refine tX 0 rfl hS ?_
  refine tX 1 rfl hS ?_
  refine tX 2 rfl hS ?_
  refine tK 3 (v:=?_) rfl ?_ hS ?_
  rotate_left
  ·intro W hSW
   have y0:W.cell? ⟨P,0,none⟩=some (.map (some M1)):=by rw [AgAt.cell hSW.1 0]; rfl
   go_simp
   all_goals with_reducible rfl
  go_simp
  refine tK 4 (v:=snV n) rfl (fun W hSW=>exec_load_ag stT rfl rfl rfl hSW.2) hS ?_
  go_simp
  refine rD 5 rfl (fun K hK=>?_)
  obtain ⟨w6,hrun,hm6,ht6,hz6⟩:=HM.out.spots.del mtSpots n HWN.out HIN.out
  have HG:=Hi (HM.out.cutSpot hm6 ht6)
  have HNE:=Hi (show P≠M1∧w.heap.size≠M1∧w.heap.size+1≠M1 from ⟨HM.out.ne.1,by have:=HLT.out _ HM.out.f1; omega,by have:=HLT.out _ HM.out.f1; omega⟩)
  replace HB0:=Hi (AgAt.block HB0.out (ht6.block _ (AgAt.lt HB0.out) HNE.out.2.1))
  replace HB1:=Hi (AgAt.block HB1.out (ht6.block _ (AgAt.lt HB1.out) HNE.out.2.2))
  replace HT:=Hi (HT.out.trans (ht6.mono fun k _ hk=>Or.inl (by subst hk; exact HM.out.f1)))
  refine step_of (by kernel_rfl) ?_
  refine wp_delete _ _ 237 35 rfl (.map (some M1)) (snV n) rfl rfl w6 (hrun _) ?_
  refine hK.out _ _ ⟨AgAt.block hS.1 (ht6.block _ (AgAt.lt hS.1) HNE.out.1),AgAt.block hS.2 (ht6.block _ (AgAt.lt hS.2) HNE.out.2.1)⟩ (fun hS=>?_)
  clear hK K hrun hm6 ht6 hz6 HNE HM
  refine wpAnyH_done (by kernel_rfl) ?_ _
  go_simp
  clear hS
  go_upto_region 2 with fail
  have hbd:=Below.drew (Below.refl w6.heap.size w6)
  replace HG:=Hi (HG.out.kept hbd)
  replace HB0:=Hi (AgAt.kept HB0.out hbd)
  replace HB1:=Hi (AgAt.kept HB1.out hbd)
  replace HT:=Hi (HT.out.trans (Turns.of_below hbd))
  have HKI:=Hi (show SMap w6.drew kb (nodesOf kc.l) from by have:=HG.out.inner kc HKC.out.1; rw [HKC.out.2.1] at this; exact this)
  refine wp_region_held_drew (S:=fun W=>AgAt W P #[.map (some M1),.map (some M2)]∧AgAt W w.heap.size #[.int .i64 n.1,.int .i64 n.2]∧AgAt W (w.heap.size+1) (spA s)∧SMap W M2 (belows C)) (by kernel_rfl) ⟨HG.out.at_,HB0.out,HB1.out,HG.out.below⟩ (fun hS=>?_)
  clear hbd
  generalize w6.drew=wb at *
  refine tX 0 rfl hS ?_
  refine tX 1 rfl hS ?_
  refine tX 2 rfl hS ?_
  refine tK 3 (v:=?_) rfl ?_ hS ?_
  rotate_left
  ·intro W hSW
   have y1:W.cell? ⟨P,1,none⟩=some (.map (some M2)):=by rw [AgAt.cell hSW.1 1]; rfl
   go_simp
   all_goals with_reducible rfl
  go_simp
  refine tX 4 rfl hS ?_
  go_simp
  refine tK 5 (v:=snV s.1) rfl (fun W hSW=>exec_load_part stT rfl rfl [.int .i64 s.1.1,.int .i64 s.1.2] rfl (hSW.2.2.1) spPar) hS ?_
  go_simp
  refine tK 6 (v:=.map (some kb)) rfl (fun W hSW=>exec_lookup rfl rfl rfl ((hSW.2.2.2.look mtBelow s.1 HWS.out).trans (by rw [lk_belows,HKO.out]))) hS ?_
  go_simp
  refine tK 7 (v:=snV n) rfl (fun W hSW=>exec_load_ag stT rfl rfl rfl hSW.2.1) hS ?_
  go_simp
  refine rD 8 rfl (fun K hK=>?_)
  obtain ⟨w7,hrun,hm7,ht7,hz7⟩:=HKI.out.del mtSet n HWN.out HNN.out
  have HJ:=Hi (HG.out.setKid (f:=fun l=>l.filter fun m=>!(m == n)) HKC.out.1 HKC.out.2.1 (by rw [← nodes_filter]; exact hm7) ht7)
  have HNE:=Hi (show P≠kb∧w.heap.size≠kb∧w.heap.size+1≠kb∧M2≠kb from by
   have h1:=HG.out.kne _ HKC.out.1
   rw [HKC.out.2.1] at h1
   have h2:=HLT.out kb (by have:=HG.out.fK _ HKC.out.1; rw [HKC.out.2.1] at this; exact this)
   exact ⟨fun h=>h1.1 h.symm,by omega,by omega,fun h=>h1.2.2 h.symm⟩)
  replace HB0:=Hi (AgAt.block HB0.out (ht7.block _ (AgAt.lt HB0.out) HNE.out.2.1))
  replace HB1:=Hi (AgAt.block HB1.out (ht7.block _ (AgAt.lt HB1.out) HNE.out.2.2.1))
  replace HT:=Hi (HT.out.trans (ht7.mono fun k _ hk=>by
   subst hk
   exact Or.inl (by have:=HG.out.fK _ HKC.out.1; rw [HKC.out.2.1] at this; exact this)))
  refine step_of (by kernel_rfl) ?_
  refine wp_delete _ _ 242 35 rfl (.map (some kb)) (snV n) rfl rfl w7 (hrun _) ?_
  refine hK.out _ _ ⟨AgAt.block hS.1 (ht7.block _ (AgAt.lt hS.1) HNE.out.1),AgAt.block hS.2.1 (ht7.block _ (AgAt.lt hS.2.1) HNE.out.2.1),AgAt.block hS.2.2.1 (ht7.block _ (AgAt.lt hS.2.2.1) HNE.out.2.2.1),hS.2.2.2.block (ht7.block _ hS.2.2.2.lt HNE.out.2.2.2)⟩ (fun hS=>?_)
  clear hK K hrun hm7 ht7 hz7 HNE HG HKI HNN
  refine wpAnyH_done (by kernel_rfl) ?_ _
  go_simp
  clear hS
  rw [HKC.out.2.2] at HJ
  go_upto_region 3 with fail
  have hbd:=Below.drew (Below.refl w7.heap.size w7)
  replace HJ:=Hi (HJ.out.kept hbd)
  replace HB0:=Hi (AgAt.kept HB0.out hbd)
  replace HB1:=Hi (AgAt.kept HB1.out hbd)
  replace HT:=Hi (HT.out.trans (Turns.of_below hbd))
  have HKJ:=Hi (show SMap w7.drew kb (nodesOf (kc.l.filter fun m=>!(m == n))) from by
   obtain ⟨c',h1,h2⟩:=setKid_at (p:=s.1) (f:=fun l=>l.filter fun m=>!(m == n)) HKC.out.1 HKC.out.2.2
   have:=HJ.out.inner c' h1
   rw [h2.1,h2.2,HKC.out.2.1] at this
   exact this)
  refine wp_region_held_drew (S:=fun W=>Below w7.drew.heap.size w7.drew W) (by kernel_rfl) (Below.refl _ _) (fun hS=>?_)
  clear hbd
  generalize w7.drew=wc at *
  refine tX 0 rfl hS ?_
  refine tX 1 rfl hS ?_
  refine tX 2 rfl hS ?_
  refine tK 3 (v:=?_) rfl ?_ hS ?_
  rotate_left
  ·intro W hSW
   have y1:=(HJ.out.kept hSW).cell1
   go_simp
   all_goals with_reducible rfl
  go_simp
  refine tX 4 rfl hS ?_
  go_simp
  refine tK 5 (v:=snV s.1) rfl (fun W hSW=>exec_load_part stT rfl rfl [.int .i64 s.1.1,.int .i64 s.1.2] rfl (AgAt.kept HB1.out hSW) spPar) hS ?_
  go_simp
  refine tK 6 (v:=.map (some kb)) rfl (fun W hSW=>exec_lookup rfl rfl rfl (((HJ.out.kept hSW).lookB s.1 HWS.out).trans (by rw [kidOf_setKid,HKO.out]))) hS ?_
  refine tK 7 (v:=?_) rfl ?_ hS ?_
  rotate_left
  ·intro W hSW
   have hln:=(HKJ.out.below hSW).len mtSet 3
   go_simp
   all_goals with_reducible rfl
  refine tK 8 (v:=?_) rfl ?_ hS ?_
  rotate_left
  ·intro W hSW
   have d0:=HD0.out
   go_simp
   all_goals with_reducible rfl
  go_simp
  refine wpAnyH_done (by kernel_rfl) ?_ _
  go_simp
  have HE:=Hi (show Lifted P M1 M2 T F n w (.returned (.tuple #[])) wc from ⟨rfl,_,⟨HJ.out,HTI.out.1,HTI.out.2⟩,HT.out⟩)
  clear hS
  go_wp2
  go_end0
  exact HE.out
open Go.RowKit
open Tm (Sp Tr has put cut kids)
def Acted (P M1 M2:Nat) (F:Nat→Prop) (T':Tr) (v:Value) (w:World) (e:Ending) (w':World):Prop :=
 e=.returned v∧∃ C',Lay w' P M1 M2 T' C' (fun k=>F k∨(w.heap.size≤k∧k<w'.heap.size))∧Turns F w w'
section
variable {w w':World} {P M1 M2:Nat} {T:Tr} {C:List Kid} {F:Nat→Prop}
theorem Lay.wide (h:Lay w P M1 M2 T C F) (n:Nat):Lay w P M1 M2 T C (fun k=>F k∨(n≤k∧k<w.heap.size)):=h.more (fun _ hk=>Or.inl hk) fun k hk=>hk.elim (fun h1=>h.lt k h1) fun h1=>h1.2
theorem Acted.same {v:Value} (h:Lay w P M1 M2 T C F) (hb:Below w.heap.size w w'):Acted P M1 M2 F T v w (.returned v) w':=⟨rfl,C,(h.kept hb).wide _,Turns.of_below hb⟩
theorem Acted.laid {n:Qm.St} {s:Sp} {v:Value} {w2 w3:World} {e:Ending} (h:Lay w P M1 M2 T C F) (hb:Below w.heap.size w w2) (hl:Laid P M1 M2 T F n s w2 e w3):Acted P M1 M2 F (put T n s) v w (.returned v) w3:=by
 obtain ⟨-,C',h2,ht⟩:=hl
 exact ⟨rfl,C',h2.more (fun k hk=>hk.imp id fun h=>⟨Nat.le_trans hb.size h.1,h.2⟩) (fun k hk=>hk.elim (fun h1=>Nat.lt_of_lt_of_le (h.lt k h1) (Nat.le_trans hb.size ht.size)) fun h=>h.2),(Turns.of_below hb).trans (ht.mono fun k _ hk=>Or.inl hk)⟩
end
theorem spot_any {P M1 M2:Nat} {T:Tr} {C:List Kid} {F:Nat→Prop} (n:Qm.St) (w:World) (h:Lay w P M1 M2 T C F) (hn:StWf n) :
  Calls Tryz.prog 155 #[.pointer (some ⟨P,0,none⟩),snV n] w fun e w'=>e=.returned (.tuple #[.agg (spA ((Tm.look T n).getD zS)),.bool (Tm.look T n).isSome])∧Below w.heap.size w w':=by
 have h1:∀ (w:World) (o:Obj),Below w.heap.size w (w.alloc o):=fun w o=>(Below.refl _ _).alloc (Nat.le_refl _) _
 have hb:=(h1 w (.cells #[.int .i64 n.1,.int .i64 n.2] 35)).trans ((h1 (w.alloc (.cells #[.int .i64 n.1,.int .i64 n.2] 35)) (.cells #[.int .i64 0,.int .i64 0,.string ⟨#[]⟩] 106)).mono (by simp))
 have HB0:=Hi ((AgAt.new w #[.int .i64 n.1,.int .i64 n.2] 35).kept (h1 _ (.cells #[.int .i64 0,.int .i64 0,.string ⟨#[]⟩] 106)))
 have HB1:=Hi (show AgAt ((w.alloc (.cells #[.int .i64 n.1,.int .i64 n.2] 35)).alloc (.cells #[.int .i64 0,.int .i64 0,.string ⟨#[]⟩] 106)) (w.heap.size+1) #[.int .i64 0,.int .i64 0,.string ⟨#[]⟩] from by
  have:=AgAt.new (w.alloc (.cells #[.int .i64 n.1,.int .i64 n.2] 35)) #[.int .i64 0,.int .i64 0,.string ⟨#[]⟩] 106
  rw [show (w.alloc (.cells #[.int .i64 n.1,.int .i64 n.2] 35)).heap.size=w.heap.size+1 from by simp] at this
  exact this)
 have HL:=Hi (h.kept hb)
 have HT:=Hi hb
 have HWN:=Hi hn
 have HLT:=Hi h.lt
 obtain ⟨ib,hib⟩:∃ b,b=(Tm.look T n).isSome:=⟨_,rfl⟩
 obtain ⟨va,hva⟩:∃ s,s=(Tm.look T n).getD zS:=⟨_,rfl⟩
 have HIB:=Hi hib
 have HVA:=Hi hva
 clear h hb hn h1 hib hva
 go_enter Tryz.func155,Tryz.ntmps155
 go_wp2_with fail
 refine (ours_any _ HL.out).mono ?_
 rintro e w1 ⟨rfl,rfl⟩
 generalize (w.alloc (.cells #[.int .i64 n.1,.int .i64 n.2] 35)).alloc (.cells #[.int .i64 0,.int .i64 0,.string ⟨#[]⟩] 106)=w1 at *
 go_upto_region 3 with fail
 have hbd:=Below.drew (Below.refl w1.heap.size w1)
 replace HL:=Hi (HL.out.kept hbd)
 replace HB0:=Hi (AgAt.kept HB0.out hbd)
 replace HB1:=Hi (AgAt.kept HB1.out hbd)
 replace HT:=Hi (HT.out.trans (hbd.mono HT.out.size))
 refine wp_region_held_drew (S:=fun W=>Below w1.drew.heap.size w1.drew W) (by kernel_rfl) (Below.refl _ _) (fun hS=>?_)
 clear hbd
 generalize w1.drew=wd at *
 refine tX 0 rfl hS ?_
 refine tX 1 rfl hS ?_
 refine tX 2 rfl hS ?_
 refine tK 3 (v:=?_) rfl ?_ hS ?_
 rotate_left
 ·intro W hSW
  have y0:=(HL.out.kept hSW).cell0
  go_simp
  all_goals with_reducible rfl
 go_simp
 refine tK 4 (v:=snV n) rfl (fun W hSW=>exec_load_ag stT rfl rfl rfl (AgAt.kept HB0.out hSW)) hS ?_
 go_simp
 refine tK 5 (v:=.tuple #[.agg (spA va),.bool ib]) rfl (fun W hSW=>exec_lookup rfl rfl rfl (by rw [HIB.out,HVA.out]; exact (HL.out.kept hSW).look1 _ HWN.out)) hS ?_
 refine tX 6 rfl hS ?_
 refine tX 7 rfl hS ?_
 refine tX 8 rfl hS ?_
 go_simp
 refine rD 9 rfl (fun K hK=>?_)
 have HS0:=Hi hS
 go_simp
 have hba:=(Below.refl wd.heap.size wd).alloc (Nat.le_refl _) (.cells #[.int .i64 0,.int .i64 0,.string ⟨#[]⟩] 106)
 refine hK.out _ _ (hS.trans (hba.mono hS.size)) (fun hS=>?_)
 clear hK K hba
 refine rD 10 rfl (fun K hK=>?_)
 refine step_of (by kernel_rfl) ?_
 refine wp_store_newag spT _ _ rfl rfl _ (A:=spA va) rfl rfl rfl (spA_one _) ?_
 intro w5 hv5 hb5
 have HV5:=Hi hv5
 have HB5:=Hi hb5
 refine hK.out _ _ (HS0.out.trans (hb5.mono HS0.out.size)) (fun hS=>?_)
 clear hK K hv5 hb5
 refine tX 11 rfl hS ?_
 go_simp
 refine wpAnyH_done (by kernel_rfl) ?_ _
 go_simp
 replace HT:=Hi (HT.out.trans (hS.mono HT.out.size))
 have HR1:=Hi (AgAt.kept HB1.out hS)
 have HW1:=Hi (AgAt.lt HB1.out)
 clear hS HB5 HS0 HL HB0 HB1
 go_wp2_with (first | (refine wpList_load_ag spT (by kernel_rfl) _ rfl _ rfl (A:=spA va) rfl HV5.out ?_) | (refine wpList_store_ag spT rfl _ _ rfl _ rfl _ HR1.out rfl rfl rfl (spA_one _) ?_; intro w6 hv6 hko6 hsz6 hbn6))
 refine bodyPost_ret (results_two spT _ rfl rfl hv6 rfl rfl) rfl ?_
 rw [HIB.out,HVA.out]
 exact ⟨rfl,hbn6 _ _ HT.out (by omega)⟩
theorem add_any {P M1 M2:Nat} {T:Tr} {C:List Kid} {F:Nat→Prop} (n:Qm.St) (s:Sp) (w:World) (h:Lay w P M1 M2 T C F) (hn:StWf n) (hs:StWf s.1) (hk:s.2.size≤140737488355328) :
  Calls Tryz.prog 296 #[.pointer (some ⟨P,0,none⟩),snV n,spV s] w (Acted P M1 M2 F (Tm.addT T n s).1 (.int .i64 (Tm.addT T n s).2) w):=by
 have h1:∀ (w:World) (o:Obj),Below w.heap.size w (w.alloc o):=fun w o=>(Below.refl _ _).alloc (Nat.le_refl _) _
 have hb:=(h1 w (.cells #[.int .i64 n.1,.int .i64 n.2] 35)).trans ((h1 (w.alloc (.cells #[.int .i64 n.1,.int .i64 n.2] 35)) (.cells (spA s) 106)).mono (by simp))
 have HB0:=Hi ((AgAt.new w #[.int .i64 n.1,.int .i64 n.2] 35).kept (h1 _ (.cells (spA s) 106)))
 have HB1:=Hi (show AgAt ((w.alloc (.cells #[.int .i64 n.1,.int .i64 n.2] 35)).alloc (.cells (spA s) 106)) (w.heap.size+1) (spA s) from by
  have:=AgAt.new (w.alloc (.cells #[.int .i64 n.1,.int .i64 n.2] 35)) (spA s) 106
  rw [show (w.alloc (.cells #[.int .i64 n.1,.int .i64 n.2] 35)).heap.size=w.heap.size+1 from by simp] at this
  exact this)
 have HL:=Hi (h.kept hb)
 have HT:=Hi hb
 have HWN:=Hi hn
 have HLT:=Hi h.lt
 obtain ⟨ib,hib⟩:∃ b,b=(Tm.look T n).isSome:=⟨_,rfl⟩
 obtain ⟨va,hva⟩:∃ s,s=(Tm.look T n).getD zS:=⟨_,rfl⟩
 have HIB:=Hi hib
 have HVA:=Hi hva
 have HWS:=Hi hs
 have HKY:=Hi hk
 obtain ⟨nb,hnb⟩:∃ b,b=okNode n.1 n.2:=⟨_,rfl⟩
 obtain ⟨rb,hrb⟩:∃ b,b=Tm.rightSp s:=⟨_,rfl⟩
 obtain ⟨pb,hhb⟩:∃ b,b=has T s.1:=⟨_,rfl⟩
 have HNB:=Hi hnb
 have HRB:=Hi hrb
 have HHB:=Hi hhb
 have HR1:=Hi (fun (k1:(Tm.okN n && Tm.rightSp s)=false) W (hW:Below w.heap.size w W)=>show Acted P M1 M2 F (Tm.addT T n s).1 (.int .i64 (Tm.addT T n s).2) w (.returned (.int .i64 1)) W from by
  unfold Tm.addT; rw [if_pos k1]; exact Acted.same h hW)
 have HR4:=Hi (fun (k1:¬ (Tm.okN n && Tm.rightSp s)=false) (k2:(Tm.look T n).isSome=true) W (hW:Below w.heap.size w W)=>show Acted P M1 M2 F (Tm.addT T n s).1 (.int .i64 (Tm.addT T n s).2) w (.returned (.int .i64 4)) W from by
  unfold Tm.addT; rw [if_neg k1,if_pos k2]; exact Acted.same h hW)
 have HR3:=Hi (fun (k1:¬ (Tm.okN n && Tm.rightSp s)=false) (k2:(Tm.look T n).isSome=false) (k3:has T s.1=false) W (hW:Below w.heap.size w W)=>show Acted P M1 M2 F (Tm.addT T n s).1 (.int .i64 (Tm.addT T n s).2) w (.returned (.int .i64 3)) W from by
  unfold Tm.addT; rw [if_neg k1,if_neg (by rw [k2]; simp),if_pos k3]; exact Acted.same h hW)
 have HR7:=Hi (fun (k1:¬ (Tm.okN n && Tm.rightSp s)=false) (k2:(Tm.look T n).isSome=false) (k3:has T s.1=true) (k4:65536≤T.length) W (hW:Below w.heap.size w W)=>show Acted P M1 M2 F (Tm.addT T n s).1 (.int .i64 (Tm.addT T n s).2) w (.returned (.int .i64 7)) W from by
  unfold Tm.addT; rw [if_neg k1,if_neg (by rw [k2]; simp),if_neg (by rw [k3]; simp),if_pos k4]; exact Acted.same h hW)
 have HR0:=Hi (fun (k1:¬ (Tm.okN n && Tm.rightSp s)=false) (k2:(Tm.look T n).isSome=false) (k3:has T s.1=true) (k4:¬ 65536≤T.length) w2 (hW:Below w.heap.size w w2) e W (hl:Laid P M1 M2 T F n s w2 e W)=>show Acted P M1 M2 F (Tm.addT T n s).1 (.int .i64 (Tm.addT T n s).2) w (.returned (.int .i64 0)) W from by
  unfold Tm.addT; rw [if_neg k1,if_neg (by rw [k2]; simp),if_neg (by rw [k3]; simp),if_neg k4]; exact Acted.laid h hW hl)
 clear h hb hn hs hk h1 hib hva hnb hrb hhb
 go_enter Tryz.func296,Tryz.ntmps296
 go_wp2_with fail
 refine (ours_any _ HL.out).mono ?_
 rintro e w1 ⟨rfl,rfl⟩
 generalize (w.alloc (.cells #[.int .i64 n.1,.int .i64 n.2] 35)).alloc (.cells (spA s) 106)=w1 at *
 go_wp2_with (refine wpList_load_ag stT (by kernel_rfl) _ rfl _ rfl (A:=#[.int .i64 n.1,.int .i64 n.2]) rfl HB0.out ?_)
 refine (onode_any _ _ _).mono ?_
 rw [← HNB.out]
 rintro e w2 ⟨rfl,hb2⟩
 replace HL:=Hi (HL.out.kept hb2)
 replace HB0:=Hi (AgAt.kept HB0.out hb2)
 replace HB1:=Hi (AgAt.kept HB1.out hb2)
 replace HT:=Hi (HT.out.trans (hb2.mono HT.out.size))
 clear hb2
 cases nb with
 | false =>
  have HE:=Hi (HR1.out (by rw [show Tm.okN n=okNode n.1 n.2 from rfl,← HNB.out]; rfl) _ HT.out)
  clear HL HB0 HB1 HT
  go_wp2
  go_ret
  exact HE.out
 | true =>
  go_wp2_with (refine wpList_load_ag spT (by kernel_rfl) _ rfl _ rfl (A:=spA s) rfl HB1.out ?_)
  refine (rightSp_any s _ HKY.out).mono ?_
  rw [← HRB.out]
  rintro e w3 ⟨rfl,hb3⟩
  replace HL:=Hi (HL.out.kept hb3)
  replace HB0:=Hi (AgAt.kept HB0.out hb3)
  replace HB1:=Hi (AgAt.kept HB1.out hb3)
  replace HT:=Hi (HT.out.trans (hb3.mono HT.out.size))
  clear hb3
  cases rb with
  | false =>
   have HE:=Hi (HR1.out (by rw [← HRB.out,Bool.and_false]) _ HT.out)
   clear HL HB0 HB1 HT
   go_wp2
   go_ret
   exact HE.out
  | true =>
   replace HR1:=Hi (show ¬ (Tm.okN n && Tm.rightSp s)=false from by rw [show Tm.okN n=okNode n.1 n.2 from rfl,← HNB.out,← HRB.out]; simp)
   go_upto_region 3 with fail
   have hbd:=Below.drew (Below.refl w3.heap.size w3)
   replace HL:=Hi (HL.out.kept hbd)
   replace HB0:=Hi (AgAt.kept HB0.out hbd)
   replace HB1:=Hi (AgAt.kept HB1.out hbd)
   replace HT:=Hi (HT.out.trans (hbd.mono HT.out.size))
   refine wp_region_held_drew (S:=fun W=>Below w3.drew.heap.size w3.drew W) (by kernel_rfl) (Below.refl _ _) (fun hS=>?_)
   clear hbd
   generalize w3.drew=wd at *
   refine tX 0 rfl hS ?_
   refine tX 1 rfl hS ?_
   refine tX 2 rfl hS ?_
   refine tK 3 (v:=?_) rfl ?_ hS ?_
   rotate_left
   ·intro W hSW
    have y0:=(HL.out.kept hSW).cell0
    go_simp
    all_goals with_reducible rfl
   go_simp
   refine tK 4 (v:=snV n) rfl (fun W hSW=>exec_load_ag stT rfl rfl rfl (AgAt.kept HB0.out hSW)) hS ?_
   go_simp
   refine tK 5 (v:=.tuple #[.agg (spA va),.bool ib]) rfl (fun W hSW=>exec_lookup rfl rfl rfl (by rw [HIB.out,HVA.out]; exact (HL.out.kept hSW).look1 _ HWN.out)) hS ?_
   refine tX 6 rfl hS ?_
   refine tX 7 rfl hS ?_
   refine tX 8 rfl hS ?_
   go_simp
   refine rD 9 rfl (fun K hK=>?_)
   have HS0:=Hi hS
   go_simp
   have hba:=(Below.refl wd.heap.size wd).alloc (Nat.le_refl _) (.cells #[.int .i64 0,.int .i64 0,.string ⟨#[]⟩] 106)
   refine hK.out _ _ (hS.trans (hba.mono hS.size)) (fun hS=>?_)
   clear hK K hba
   refine rD 10 rfl (fun K hK=>?_)
   refine step_of (by kernel_rfl) ?_
   refine wp_store_newag spT _ _ rfl rfl _ (A:=spA va) rfl rfl rfl (spA_one _) ?_
   intro w5 hv5 hb5
   have HV5:=Hi hv5
   have HB5:=Hi hb5
   refine hK.out _ _ (HS0.out.trans (hb5.mono HS0.out.size)) (fun hS=>?_)
   clear hK K hv5 hb5
   refine tX 11 rfl hS ?_
   go_simp
   refine wpAnyH_done (by kernel_rfl) ?_ _
   go_simp
   replace HL:=Hi (HL.out.kept hS)
   replace HB0:=Hi (AgAt.kept HB0.out hS)
   replace HB1:=Hi (AgAt.kept HB1.out hS)
   replace HT:=Hi (HT.out.trans (hS.mono HT.out.size))
   clear hS HB5 HS0 HV5 HVA
   cases ib with
   | true =>
    have HE:=Hi (HR4.out HR1.out HIB.out.symm _ HT.out)
    clear HL HB0 HB1 HT
    go_wp2
    go_ret
    exact HE.out
   | false =>
    go_wp2_with (refine wpList_load_part stT rfl _ rfl _ 0 rfl [.int .i64 s.1.1,.int .i64 s.1.2] rfl HB1.out spPar ?_)
    refine (has_any s.1 _ HL.out HWS.out).mono ?_
    rw [← HHB.out]
    rintro e w6 ⟨rfl,hb6⟩
    replace HL:=Hi (HL.out.kept hb6)
    replace HB0:=Hi (AgAt.kept HB0.out hb6)
    replace HB1:=Hi (AgAt.kept HB1.out hb6)
    replace HT:=Hi (HT.out.trans (hb6.mono HT.out.size))
    clear hb6
    cases pb with
    | false =>
     have HE:=Hi (HR3.out HR1.out HIB.out.symm HHB.out.symm _ HT.out)
     clear HL HB0 HB1 HT
     go_wp2
     go_ret
     exact HE.out
    | true =>
     have y0:=HL.out.cell0
     have hln:=HL.out.spots.len mtSpots 3
     by_cases h7:65536≤T.length
     ·have HE:=Hi (HR7.out HR1.out HIB.out.symm HHB.out.symm h7 _ HT.out)
      have d0:decide (65536≤(((Go.Proofs.YthfhefdfehlbkaaGreat.spots T).length:Nat):Int))=true:=decide_eq_true (by unfold Go.Proofs.YthfhefdfehlbkaaGreat.spots; rw [List.length_map]; omega)
      clear HL HB0 HB1 HT h7
      go_wp2
      go_ret
      exact HE.out
     ·have d0:decide (65536≤(((Go.Proofs.YthfhefdfehlbkaaGreat.spots T).length:Nat):Int))=false:=decide_eq_false (by unfold Go.Proofs.YthfhefdfehlbkaaGreat.spots; rw [List.length_map]; omega)
      have HLAY:=Hi (lay_any n s _ HL.out HWN.out HWS.out (by have:=HIB.out; simpa using this.symm))
      have HR0:=Hi (HR0.out HR1.out HIB.out.symm HHB.out.symm h7 _ HT.out)
      clear HL HT h7
      go_wp2_with (first | (refine wpList_load_ag stT (by kernel_rfl) _ rfl _ rfl (A:=#[.int .i64 n.1,.int .i64 n.2]) rfl HB0.out ?_) | (refine wpList_load_ag spT (by kernel_rfl) _ rfl _ rfl (A:=spA s) rfl HB1.out ?_))
      refine HLAY.out.mono ?_
      intro e w8 h8
      have HE:=Hi (HR0.out _ _ h8)
      obtain ⟨rfl,-⟩:=h8
      clear HLAY
      go_wp2
      go_ret
      exact HE.out
theorem drop_any {P M1 M2:Nat} {T:Tr} {C:List Kid} {F:Nat→Prop} (n:Qm.St) (w:World) (h:Lay w P M1 M2 T C F) (hn:StWf n) (hsw:∀ s,Tm.look T n=some s→StWf s.1) :
  Calls Tryz.prog 298 #[.pointer (some ⟨P,0,none⟩),snV n] w (Acted P M1 M2 F (Tm.dropT T n).1 (.tuple #[.agg (spA (Tm.dropT T n).2.1),.int .i64 (Tm.dropT T n).2.2]) w):=by
 have h1:∀ (w:World) (o:Obj),Below w.heap.size w (w.alloc o):=fun w o=>(Below.refl _ _).alloc (Nat.le_refl _) _
 have hb:=(h1 w (.cells #[.int .i64 n.1,.int .i64 n.2] 35)).trans ((h1 (w.alloc (.cells #[.int .i64 n.1,.int .i64 n.2] 35)) (.cells #[.int .i64 0,.int .i64 0,.string ⟨#[]⟩] 106)).mono (by simp))
 have HB0:=Hi ((AgAt.new w #[.int .i64 n.1,.int .i64 n.2] 35).kept (h1 _ (.cells #[.int .i64 0,.int .i64 0,.string ⟨#[]⟩] 106)))
 have HB1:=Hi (show AgAt ((w.alloc (.cells #[.int .i64 n.1,.int .i64 n.2] 35)).alloc (.cells #[.int .i64 0,.int .i64 0,.string ⟨#[]⟩] 106)) (w.heap.size+1) #[.int .i64 0,.int .i64 0,.string ⟨#[]⟩] from by
  have:=AgAt.new (w.alloc (.cells #[.int .i64 n.1,.int .i64 n.2] 35)) #[.int .i64 0,.int .i64 0,.string ⟨#[]⟩] 106
  rw [show (w.alloc (.cells #[.int .i64 n.1,.int .i64 n.2] 35)).heap.size=w.heap.size+1 from by simp] at this
  exact this)
 have HL:=Hi (h.kept hb)
 have HT:=Hi hb
 have HWN:=Hi hn
 have HLT:=Hi h.lt
 obtain ⟨ib,hib⟩:∃ b,b=(Tm.look T n).isSome:=⟨_,rfl⟩
 obtain ⟨va,hva⟩:∃ s,s=(Tm.look T n).getD zS:=⟨_,rfl⟩
 have HIB:=Hi hib
 have HVA:=Hi hva
 have HSW:=Hi hsw
 have HR3:=Hi (fun (k2:(Tm.look T n).isSome=false) W (hW:Below w.heap.size w W)=>show Acted P M1 M2 F (Tm.dropT T n).1 (.tuple #[.agg (spA (Tm.dropT T n).2.1),.int .i64 (Tm.dropT T n).2.2]) w (.returned (.tuple #[.agg (spA zS),.int .i64 3])) W from by
  rw [Option.isSome_eq_false_iff,Option.isNone_iff_eq_none] at k2
  unfold Tm.dropT; rw [k2]; exact Acted.same h hW)
 have HR4:=Hi (fun (k2:(Tm.look T n).isSome=true) (k3:kids T n ≠ []) W (hW:Below w.heap.size w W)=>show Acted P M1 M2 F (Tm.dropT T n).1 (.tuple #[.agg (spA (Tm.dropT T n).2.1),.int .i64 (Tm.dropT T n).2.2]) w (.returned (.tuple #[.agg (spA zS),.int .i64 4])) W from by
  obtain ⟨s,hs⟩:=Option.isSome_iff_exists.1 k2
  unfold Tm.dropT; rw [hs]; dsimp only; rw [if_neg k3]; exact Acted.same h hW)
 have HR0:=Hi (fun (k2:(Tm.look T n).isSome=true) (k3:kids T n=[]) w2 (hW:Below w.heap.size w w2) e w3 (hl:Lifted P M1 M2 T F n w2 e w3) W (hb:Turns (fun k=>k=w.heap.size+1) w3 W)=>show Acted P M1 M2 F (Tm.dropT T n).1 (.tuple #[.agg (spA (Tm.dropT T n).2.1),.int .i64 (Tm.dropT T n).2.2]) w (.returned (.tuple #[.agg (spA ((Tm.look T n).getD zS)),.int .i64 0])) W from by
  obtain ⟨s,hs⟩:=Option.isSome_iff_exists.1 k2
  obtain ⟨-,C',h2,ht⟩:=hl
  unfold Tm.dropT; rw [hs]; dsimp only; rw [if_pos k3]
  have h3:=h2.turns hb fun k hk hh=>by have:=h.lt k hk; omega
  exact ⟨rfl,C',h3.wide _,(Turns.of_below hW).trans ((ht.mono fun k _ hk=>Or.inl hk).trans (hb.mono fun k _ hk=>Or.inl (Or.inr (by omega))))⟩)
 clear h hb hn hsw h1 hib hva
 go_enter Tryz.func298,Tryz.ntmps298
 go_wp2_with fail
 refine (ours_any _ HL.out).mono ?_
 rintro e w1 ⟨rfl,rfl⟩
 generalize (w.alloc (.cells #[.int .i64 n.1,.int .i64 n.2] 35)).alloc (.cells #[.int .i64 0,.int .i64 0,.string ⟨#[]⟩] 106)=w1 at *
 go_upto_region 3 with fail
 have hbd:=Below.drew (Below.refl w1.heap.size w1)
 replace HL:=Hi (HL.out.kept hbd)
 replace HB0:=Hi (AgAt.kept HB0.out hbd)
 replace HB1:=Hi (AgAt.kept HB1.out hbd)
 replace HT:=Hi (HT.out.trans (hbd.mono HT.out.size))
 refine wp_region_held_drew (S:=fun W=>AgAt W P #[.map (some M1),.map (some M2)]∧AgAt W w.heap.size #[.int .i64 n.1,.int .i64 n.2]∧SMap W M1 (spots T)) (by kernel_rfl) ⟨HL.out.at_,HB0.out,HL.out.spots⟩ (fun hS=>?_)
 clear hbd
 generalize w1.drew=wd at *
 refine tX 0 rfl hS ?_
 refine tX 1 rfl hS ?_
 refine tX 2 rfl hS ?_
 refine tK 3 (v:=?_) rfl ?_ hS ?_
 rotate_left
 ·intro W hSW
  have y0:W.cell? ⟨P,0,none⟩=some (.map (some M1)):=by rw [AgAt.cell hSW.1 0]; rfl
  go_simp
  all_goals with_reducible rfl
 go_simp
 refine tK 4 (v:=snV n) rfl (fun W hSW=>exec_load_ag stT rfl rfl rfl hSW.2.1) hS ?_
 go_simp
 refine tK 5 (v:=.tuple #[.agg (spA va),.bool ib]) rfl (fun W hSW=>exec_lookup rfl rfl rfl ((hSW.2.2.lookOk mtSpots n HWN.out).trans (by rw [lk_spots,HIB.out,HVA.out]; cases Tm.look T n <;> rfl))) hS ?_
 refine tX 6 rfl hS ?_
 refine tX 7 rfl hS ?_
 refine tX 8 rfl hS ?_
 go_simp
 refine rD 9 rfl (fun K hK=>?_)
 refine step_of (by kernel_rfl) ?_
 refine wp_store_ag spT _ _ rfl _ rfl _ HB1.out (A:=spA va) rfl rfl rfl (spA_one _) ?_
 intro w5 hv5 hko5 hsz5 hbn5
 have hbn:=hbn5
 have ht5:=stored_turns hko5 hsz5 hbn5
 have HV5:=Hi hv5
 replace HL:=Hi (HL.out.turns ht5 fun k hk h=>by have:=HLT.out k hk; omega)
 replace HB0:=Hi (AgAt.block HB0.out (hko5 _ (by omega)))
 replace HT:=Hi (hbn5 _ _ HT.out (by omega))
 refine hK.out _ _ ⟨AgAt.block hS.1 (hko5 _ (by have:=HLT.out _ HL.out.fP; omega)),AgAt.block hS.2.1 (hko5 _ (by omega)),hS.2.2.block (hko5 _ (by have:=HLT.out _ HL.out.f1; omega))⟩ (fun hS=>?_)
 clear hK K hv5 hko5 hsz5 hbn5 ht5 hbn
 refine tX 10 rfl hS ?_
 go_simp
 refine wpAnyH_done (by kernel_rfl) ?_ _
 go_simp
 clear hS HB1
 cases ib with
 | false =>
  have HE:=Hi (HR3.out HIB.out.symm)
  clear HL HB0
  go_wp2_with (refine wpList_store_ag spT rfl _ _ rfl _ rfl _ HV5.out (A:=spA zS) rfl rfl rfl (spA_one _) ?_; intro w6 hv6 hko6 hsz6 hbn6)
  refine bodyPost_ret (results_two spT _ rfl rfl hv6 rfl rfl) rfl ?_
  exact HE.out _ (hbn6 _ _ HT.out (by omega))
 | true =>
  obtain ⟨ko,hko⟩:∃ k,k=kidOf C n:=⟨_,rfl⟩
  have HKO:=Hi hko
  clear hko
  cases ko with
  | some kb =>
   go_upto_region 6 with fail
   have hbd:=Below.drew (Below.refl w5.heap.size w5)
   replace HL:=Hi (HL.out.kept hbd)
   replace HB0:=Hi (AgAt.kept HB0.out hbd)
   replace HV5:=Hi (AgAt.kept HV5.out hbd)
   replace HT:=Hi (HT.out.trans (hbd.mono HT.out.size))
   refine wp_region_held_drew (S:=fun W=>Below w5.drew.heap.size w5.drew W) (by kernel_rfl) (Below.refl _ _) (fun hS=>?_)
   clear hbd
   obtain ⟨kc,-,-,-,hk1,hk2,hk3⟩:=HL.out.kidSome HKO.out.symm
   have HLN:=Hi (fun W (hW:Below w5.drew.heap.size w5.drew W)=>(hk1.below hW).len mtSet 3)
   have HD0:=Hi (show 0<(nodesOf kc.l).length from by unfold nodesOf; rw [List.length_map]; have:=List.length_pos_iff.2 hk2; omega)
   have HE:=Hi (HR4.out HIB.out.symm (fun hh=>hk2 (by rw [hh] at hk3; exact hk3.eq_nil)))
   clear hk1 hk2 hk3
   generalize w5.drew=w5 at *
   refine tX 0 rfl hS ?_
   refine tX 1 rfl hS ?_
   refine tX 2 rfl hS ?_
   refine tK 3 (v:=?_) rfl ?_ hS ?_
   rotate_left
   ·intro W hSW
    have y1:=(HL.out.kept hSW).cell1
    go_simp
    all_goals with_reducible rfl
   go_simp
   refine tK 4 (v:=snV n) rfl (fun W hSW=>exec_load_ag stT rfl rfl rfl (AgAt.kept HB0.out hSW)) hS ?_
   go_simp
   refine tK 5 (v:=.map (some kb)) rfl (fun W hSW=>exec_lookup rfl rfl rfl (((HL.out.kept hSW).lookB n HWN.out).trans (by rw [← HKO.out]))) hS ?_
   refine tK 6 (v:=?_) rfl ?_ hS ?_
   rotate_left
   ·intro W hSW
    have hln:=HLN.out W hSW
    go_simp
    all_goals with_reducible rfl
   refine tK 7 (v:=?_) rfl ?_ hS ?_
   rotate_left
   ·intro W hSW
    have d0:=HD0.out
    go_simp
    all_goals with_reducible rfl
   go_simp
   refine wpAnyH_done (by kernel_rfl) ?_ _
   go_simp
   clear hS HL HB0
   go_wp2_with (refine wpList_store_ag spT rfl _ _ rfl _ rfl _ HV5.out (A:=spA zS) rfl rfl rfl (spA_one _) ?_; intro w6 hv6 hko6 hsz6 hbn6)
   refine bodyPost_ret (results_two spT _ rfl rfl hv6 rfl rfl) rfl ?_
   exact HE.out _ (hbn6 _ _ HT.out (by omega))
  | none =>
   go_upto_region 6 with fail
   have hbd:=Below.drew (Below.refl w5.heap.size w5)
   replace HL:=Hi (HL.out.kept hbd)
   replace HB0:=Hi (AgAt.kept HB0.out hbd)
   replace HV5:=Hi (AgAt.kept HV5.out hbd)
   replace HT:=Hi (HT.out.trans (hbd.mono HT.out.size))
   refine wp_region_held_drew (S:=fun W=>Below w5.drew.heap.size w5.drew W) (by kernel_rfl) (Below.refl _ _) (fun hS=>?_)
   clear hbd
   have HLN:=Hi (fun W (_:Below w5.drew.heap.size w5.drew W)=>len_none (w:=W) mtSet 3)
   have HD0:=Hi (show decide ((0:Int)<0)=false from rfl)
   have HE:=Hi (HR0.out HIB.out.symm (HL.out.kidNone HKO.out.symm))
   have HLI:=Hi (show Calls Tryz.prog 322 #[.pointer (some ⟨P,0,none⟩),snV n,.agg (spA va)] w5.drew (Lifted P M1 M2 T F n w5.drew) from by
    obtain ⟨s,hs⟩:=Option.isSome_iff_exists.1 HIB.out.symm
    have:va=s:=by rw [HVA.out,hs]; rfl
    subst this
    exact lift_any n va _ HL.out (HSW.out va hs) hs)
   generalize w5.drew=w5 at *
   refine tX 0 rfl hS ?_
   refine tX 1 rfl hS ?_
   refine tX 2 rfl hS ?_
   refine tK 3 (v:=?_) rfl ?_ hS ?_
   rotate_left
   ·intro W hSW
    have y1:=(HL.out.kept hSW).cell1
    go_simp
    all_goals with_reducible rfl
   go_simp
   refine tK 4 (v:=snV n) rfl (fun W hSW=>exec_load_ag stT rfl rfl rfl (AgAt.kept HB0.out hSW)) hS ?_
   go_simp
   refine tK 5 (v:=.map (none)) rfl (fun W hSW=>exec_lookup rfl rfl rfl (((HL.out.kept hSW).lookB n HWN.out).trans (by rw [← HKO.out]))) hS ?_
   refine tK 6 (v:=?_) rfl ?_ hS ?_
   rotate_left
   ·intro W hSW
    have hln:=HLN.out W hSW
    go_simp
    all_goals with_reducible rfl
   refine tK 7 (v:=?_) rfl ?_ hS ?_
   rotate_left
   ·intro W hSW
    have d0:=HD0.out
    go_simp
    all_goals with_reducible rfl
   go_simp
   refine wpAnyH_done (by kernel_rfl) ?_ _
   go_simp
   clear hS HL
   go_wp2_with (first | (refine wpList_load_ag stT (by kernel_rfl) _ rfl _ rfl (A:=#[.int .i64 n.1,.int .i64 n.2]) rfl HB0.out ?_) | (refine wpList_load_ag spT (by kernel_rfl) _ rfl _ rfl (A:=spA va) rfl HV5.out ?_))
   refine HLI.out.mono ?_
   intro e w6 h6
   have HQ:=Hi (fun w7 (hb:Turns (fun k=>k=w.heap.size+1) w6 w7)=>HE.out w5 HT.out _ _ h6 w7 hb)
   obtain ⟨rfl,_,-,ht6⟩:=h6
   have HV6:=Hi (AgAt.block HV5.out (ht6.block _ (AgAt.lt HV5.out) fun h=>by have:=HLT.out _ h; omega))
   clear HLI ht6
   go_wp2_with (first | (refine wpList_load_ag spT (by kernel_rfl) _ rfl _ rfl (A:=spA va) rfl HV6.out ?_) | (refine wpList_store_ag spT rfl _ _ rfl _ rfl _ HV6.out (A:=spA va) rfl rfl rfl (spA_one _) ?_; intro w7 hv7 hko7 hsz7 hbn7))
   refine bodyPost_ret (results_two spT _ rfl rfl hv7 rfl rfl) rfl ?_
   rw [HVA.out]
   exact HQ.out _ (stored_turns hko7 hsz7 hbn7)
end Go.Proofs.YthfhefdfehlbkaaGreat
namespace Go.Proofs.YthfhefdfehlbkaaGreat.Pm
open Go.Proofs.YthfhefdfehlbkaaGreat
abbrev Nm:=List Int
abbrev Vl:=Int × Int × ByteArray
structure Wr where
 s:Qm.St
 x:Opp
abbrev Rg (V:Type):=Nm→Qm.St × V
def z0:Vl:=(0,0,⟨#[]⟩)
def Rg.zero {V:Type} (d:V):Rg V:=fun _=>((0,0),d)
def put {V:Type} (f:Rg V) (n:Nm) (s:Qm.St) (v:V):Rg V:=fun y=>if y=n then (if Qm.ltS (f n).1 s then (s,v) else f n) else f y
def step {V:Type} (h:Wr→Option (Nm × V)) (f:Rg V) (w:Wr):Rg V :=
 match h w with
 | none=>f
 | some (n,v)=>put f n w.s v
section
variable {V:Type} {h:Wr→Option (Nm × V)} {d:V}
theorem step_none {f:Rg V} {w:Wr} (e:h w=none):step h f w=f:=by unfold step; rw [e]
theorem step_some {f:Rg V} {w:Wr} {n:Nm} {v:V} (e:h w=some (n,v)):step h f w=put f n w.s v:=by unfold step; rw [e]
end
def flat (l:List Qm.St):Nm:=l.flatMap fun s=>[s.1,s.2]
def pad (l:List Qm.St):Nm:=flat (l.take 8) ++ List.replicate (16 - 2 * (l.take 8).length) 0
def nameV (n:Qm.St) (p:Int):Nm:=[n.1,n.2,p]
def nameM (n:Qm.St):Nm:=[n.1,n.2]
def nameO (n:Qm.St) (l:List Qm.St) (p:Int):Nm:=[n.1,n.2,p] ++ pad l ++ [(l.length:Int)]
def okW (w:Wr):Bool:=okNode w.s.1 w.s.2 && rightO w.x
def hV (w:Wr):Option (Nm × Vl):=if okW w=true∧w.x.k=3 then some (nameV (w.x.nt,w.x.nr) w.x.p,(w.x.vk,w.x.vn,w.x.vt)) else none
def hM (w:Wr):Option (Nm × Bool):=if okW w=true∧w.x.k=4 then some (nameM (w.x.nt,w.x.nr),w.x.on) else none
def hO (w:Wr):Option (Nm × Vl):=if okW w=true∧w.x.k=6 then some (nameO (w.x.nt,w.x.nr) w.x.path w.x.p,(w.x.vk,w.x.vn,w.x.vt)) else none
structure Rs where
 v:Rg Vl
 m:Rg Bool
 o:Rg Vl
def Rs.zero:Rs:=⟨Rg.zero z0,Rg.zero false,Rg.zero z0⟩
def doR (r:Rs) (w:Wr):Rs:=⟨step hV r.v w,step hM r.m w,step hO r.o w⟩
def doE (w:Wr):Int:=if okW w=true then (if w.x.k=3∨w.x.k=4∨w.x.k=6 then 0 else 42) else 1
def allR (l:List Wr):Rs:=l.foldl doR Rs.zero
theorem hV_ok {w:Wr} {p:Nm × Vl} (h:hV w=some p):okW w=true∧w.x.k=3:=by
 unfold hV at h
 split at h
 ·assumption
 ·cases h
theorem hM_ok {w:Wr} {p:Nm × Bool} (h:hM w=some p):okW w=true∧w.x.k=4:=by
 unfold hM at h
 split at h
 ·assumption
 ·cases h
theorem hO_ok {w:Wr} {p:Nm × Vl} (h:hO w=some p):okW w=true∧w.x.k=6:=by
 unfold hO at h
 split at h
 ·assumption
 ·cases h
theorem doR_bad {r:Rs} {w:Wr} (h:doE w≠0):doR r w=r:=by
 have e1:hV w=none:=by
  cases e:hV w with
  | none=>rfl
  | some p=>exact absurd (by unfold doE; rw [if_pos (hV_ok e).1,if_pos (Or.inl (hV_ok e).2)]) h
 have e2:hM w=none:=by
  cases e:hM w with
  | none=>rfl
  | some p=>exact absurd (by unfold doE; rw [if_pos (hM_ok e).1,if_pos (Or.inr (Or.inl (hM_ok e).2))]) h
 have e3:hO w=none:=by
  cases e:hO w with
  | none=>rfl
  | some p=>exact absurd (by unfold doE; rw [if_pos (hO_ok e).1,if_pos (Or.inr (Or.inr (hO_ok e).2))]) h
 unfold doR
 rw [step_none e1,step_none e2,step_none e3]
theorem flat_length (l:List Qm.St):(flat l).length=2 * l.length:=by
 induction l with
 | nil=>rfl
 | cons a l ih=>simp only [flat,List.flatMap_cons,List.length_append,List.length_cons,List.length_nil] at ih ⊢; omega
theorem pad_length (l:List Qm.St):(pad l).length=16:=by
 unfold pad
 rw [List.length_append,List.length_replicate,flat_length,List.length_take]
 omega
theorem nameO_length (n:Qm.St) (l:List Qm.St) (p:Int):(nameO n l p).length=20:=by
 unfold nameO
 rw [List.length_append,List.length_append,pad_length]
 rfl
structure QO (q:Opp):Prop where
 k:q.k=6
 rt:q.rt=0
 rr:q.rr=0
 key:q.key=⟨#[]⟩
theorem rightO_fit {x:Opp} (h:rightO x=true):fitO (prt x.k) x=true∧aloneO (prt x.k) x=true:=by
 unfold rightO at h
 rw [Bool.and_eq_true,Bool.and_eq_true] at h
 exact ⟨h.1.2,h.2⟩
theorem right_QO {x:Opp} (h:rightO x=true) (hk:x.k=6):QO x∧x.path.length≤8:=by
 have h1:=(rightO_fit h).2
 have h0:=(rightO_fit h).1
 rw [hk] at h1 h0
 simp [aloneO,prt,isZ] at h1
 simp [fitO,prt,okPath] at h0
 obtain ⟨⟨⟨h1,h2⟩,h3⟩,-⟩:=h1
 exact ⟨⟨hk,h1,h2,h3⟩,h0.1.2.1.2⟩
end Go.Proofs.YthfhefdfehlbkaaGreat.Pm

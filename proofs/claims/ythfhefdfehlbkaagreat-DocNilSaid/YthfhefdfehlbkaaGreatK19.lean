/-
  maps.Keys, ranged over, at maps whose keys are stamps.
  No conditions.
  WHAT LIES ASIDE: a node's master, or a master's nodes: reaches' two functions.
  No conditions but sizes.
-/
import Derived.Test.YthfhefdfehlbkaaGreatSh
import Derived.Test.YthfhefdfehlbkaaGreatK16
import Derived.Test.YthfhefdfehlbkaaGreatK18
import Derived.Test.YthfhefdfehlbkaaGreatK15
set_option maxRecDepth 100000
set_option maxHeartbeats 8000000
namespace Go.Proofs.YthfhefdfehlbkaaGreat
open Go.RowKit
open Tm (Sp Tr has put cut kids)
attribute [local go_sem] Oper.semAt_some
structure KeyI (l:List (Qm.St × Value)) (J:List Qm.St→(Nat→Prop)→World→Prop) (Fp:Nat→Prop) (W0:World) (r M:Nat) (pre:List Qm.St) (left:List (Qm.St × Value)) (F1:Nat→Prop) (w:World):Prop where
 all:(pre ++ left.map Prod.fst).Perm (l.map Prod.fst)
 inv:J pre F1 w
 it:SIt w r M l left
 fr:¬ F1 r
 lr:W0.heap.size≤r
 turns:Turns (fun k=>Fp k∨W0.heap.size≤k) W0 w
 grows:Grows Fp F1 W0
def Keyed1 (l:List (Qm.St × Value)) (J Jx:List Qm.St→(Nat→Prop)→World→Prop) (Fp:Nat→Prop) (W:World) (e:Ending) (W':World):Prop :=
 (∃ v,e=.returned v)∧∃ Fp',Turns (fun k=>Fp k∨W.heap.size≤k) W W'∧Grows Fp Fp' W∧((∃ xs:List Qm.St,xs.Perm (l.map Prod.fst)∧J xs Fp' W')∨(∃ pre,(∃ rest,(pre ++ rest).Perm (l.map Prod.fst))∧Jx pre Fp' W'))
theorem keysA1_seq {b0 M:Nat} {l:List (Qm.St × Value)} {F0:Nat→Prop} (w:World) (h0:AgAt w b0 #[.map (some M)]) (hm:SMap w M l) (k1:¬ F0 M) :
  SeqFp Tryz.prog 258 #[.pointer (some ⟨b0,0,none⟩)] snV (fun xs=>xs.Perm (l.map Prod.fst)) (fun pre=>∃ rest,(pre ++ rest).Perm (l.map Prod.fst)) F0 w:=by
 intro l0 J Jx W Fp hW hFp hJ hlt hY hI0
 refine Calls.mono (R:=Keyed1 l J Jx Fp W) ?_ fun e W' h=>h
 have yb:=AgAt.cell (AgAt.kept h0 hW) 0
 have HM:=Hi (hm.below hW)
 have HNM:=Hi (show ¬ Fp M∧M<W.heap.size from ⟨fun h=>k1 (hFp _ hm.lt h),HM.out.lt⟩)
 have HJ:=Hi hJ
 have HLT:=Hi hlt
 have HY:=Hi hY
 have HI0:=Hi hI0
 obtain ⟨o,hrg,hit⟩:=HM.out.range mtSpots
 have HIT:=Hi hit
 have HBO:=Hi ((Below.refl W.heap.size W).alloc (Nat.le_refl _) o)
 have HK:=Hi (show KeyI l J Fp W W.heap.size M [] l Fp (W.alloc o) from ⟨by simp,HJ.out _ _ _ _ HI0.out (Turns.of_below HBO.out),HIT.out,fun h=>Nat.lt_irrefl _ (HLT.out _ _ _ HI0.out _ h),Nat.le_refl _,Turns.of_below HBO.out,Grows.refl _ _⟩)
 clear h0 hm hW hFp hJ hlt hY hI0 k1 hit HIT HBO HM HI0
 simp only [List.append_toArray,List.cons_append,List.nil_append]
 go_enter Tryz.func258,Tryz.ntmps258
 go_wp2_with fail
 clear yb hrg
 generalize W.alloc o=w1 at *
 go_loopg [] (l.length+1) (fun g wr=>∃ pre left F1,KeyI l J Fp W W.heap.size M pre left F1 wr∧left.length<g)
 case atStart=>exact ⟨_,_,_,HK.out,Nat.lt_succ_self _⟩
 case round =>
  clear HK
  obtain ⟨pre,left,F1,hK,hlg⟩:=hrel
  obtain ⟨g1,rfl⟩:∃ g1,gk=g1+1:=⟨gk - 1,by omega⟩
  have HK:=Hi hK
  have HLG:=Hi hlg
  clear hK hlg
  rcases HK.out.it.next 0 with ⟨h0,hnx⟩ | ⟨b,left',w2,hp,hnx,ht2,hit2,hen⟩
  ·have HE:=Hi (show Keyed1 l J Jx Fp W (.returned (.tuple #[])) wr from by
    have h2:=HK.out.all
    rw [h0] at h2
    simp only [List.map_nil,List.append_nil] at h2
    exact ⟨⟨_,rfl⟩,F1,HK.out.turns,HK.out.grows,Or.inl ⟨pre,h2,HK.out.inv⟩⟩)
   clear HK HLG h0 HY
   go_wp2
   go_end0
   exact HE.out
  ·have HP:=Hi (show ((pre ++ [b.1]) ++ left'.map Prod.fst).Perm (l.map Prod.fst) from by
    rw [List.append_assoc]
    exact (List.Perm.append_left pre (hp.map Prod.fst)).trans HK.out.all)
   have HLT2:=Hi (show left'.length<g1 from by have h1:=hp.length_eq; have h2:=HLG.out; simp only [List.length_cons] at h1; omega)
   have HJ2:=Hi (HJ.out _ _ _ _ HK.out.inv (ht2.mono fun k _ hk h=>HK.out.fr (by rw [← hk]; exact h)))
   have HT2:=Hi (show Turns (fun k=>Fp k∨W.heap.size≤k) W w2 from HK.out.turns.trans (ht2.mono fun k _ hk=>Or.inl (Or.inr (by rw [hk]; exact HK.out.lr))))
   have HIT2:=Hi hit2
   clear hp ht2 hit2 HLG
   go_upto_region 3 with (refine wpList_store_newag stT rfl _ _ rfl rfl _ (A:=#[.int .i64 b.1.1,.int .i64 b.1.2]) rfl rfl rfl (stA_one _ _) ?_; intro w3 hv3 hb3)
   clear hnx hen
   have HX:=Hi hv3
   replace HJ2:=Hi (HJ.out _ _ _ _ HJ2.out (Turns.of_below hb3))
   replace HT2:=Hi (HT2.out.trans (Turns.of_below hb3))
   replace HIT2:=Hi (HIT2.out.below hb3)
   clear hv3 hb3
   obtain ⟨fn,tmps,assign,body,hyr,hR⟩:=HY.out pre b.1 F1 w3 HJ2.out ⟨_,HP.out⟩
   have HR:=Hi hR
   clear hR
   refine (wpIn_wide (n:=0)).1 ?_
   gi_wp2_with (refine wpListIn_load_ag stT rfl _ rfl _ rfl (A:=#[.int .i64 b.1.1,.int .i64 b.1.2]) rfl HX.out ?_)
   refine ⟨rfl,HR.out.mono ?_⟩
   rintro e w4 ⟨F3,ht4,hg4,(⟨rfl,hj4⟩ | ⟨rfl,hj4⟩)⟩
   ·have HK4:=Hi (show KeyI l J Fp W W.heap.size M (pre ++ [b.1]) left' F3 w4 from
     ⟨HP.out,hj4,HIT2.out.turns ht4 HK.out.fr (fun h=>(HK.out.grows _ h).elim HNM.out.1 fun h=>by have:=HNM.out.2; omega),fun h=>(hg4 _ h).elim HK.out.fr fun h=>by have:=HIT2.out.ltR; omega,HK.out.lr,
      HT2.out.trans (ht4.mono fun k _ hk=>Or.inl (HK.out.grows k hk)),fun k hk=>(hg4 k hk).elim (HK.out.grows k) fun h=>Or.inr (Nat.le_trans HT2.out.size h)⟩)
    clear HK HR ht4 hg4 hj4 hyr HJ2 HT2 HIT2 HP HX
    gi_wp2
    go_wp2
    go_roundg g1
    case rel=>exact ⟨_,_,_,HK4.out,HLT2.out⟩
    case measure=>omega
   ·have HE:=Hi (show Keyed1 l J Jx Fp W (.returned (.tuple #[])) w4 from
     ⟨⟨_,rfl⟩,F3,HT2.out.trans (ht4.mono fun k _ hk=>Or.inl (HK.out.grows k hk)),fun k hk=>(hg4 k hk).elim (HK.out.grows k) fun h=>Or.inr (Nat.le_trans HT2.out.size h),Or.inr ⟨_,⟨_,HP.out⟩,hj4⟩⟩)
    clear HK HR ht4 hg4 hj4 hyr HJ2 HT2 HIT2 HP HX HY
    gi_wp2
    go_wp2
    go_end0
    exact HE.out
theorem keysB1_seq {b0 M:Nat} {l:List (Qm.St × Value)} {F0:Nat→Prop} (w:World) (h0:AgAt w b0 #[.map (some M)]) (hm:SMap w M l) (k1:¬ F0 M) :
  SeqFp Tryz.prog 287 #[.pointer (some ⟨b0,0,none⟩)] snV (fun xs=>xs.Perm (l.map Prod.fst)) (fun pre=>∃ rest,(pre ++ rest).Perm (l.map Prod.fst)) F0 w:=by
 intro l0 J Jx W Fp hW hFp hJ hlt hY hI0
 refine Calls.mono (R:=Keyed1 l J Jx Fp W) ?_ fun e W' h=>h
 have yb:=AgAt.cell (AgAt.kept h0 hW) 0
 have HM:=Hi (hm.below hW)
 have HNM:=Hi (show ¬ Fp M∧M<W.heap.size from ⟨fun h=>k1 (hFp _ hm.lt h),HM.out.lt⟩)
 have HJ:=Hi hJ
 have HLT:=Hi hlt
 have HY:=Hi hY
 have HI0:=Hi hI0
 obtain ⟨o,hrg,hit⟩:=HM.out.range mtSet
 have HIT:=Hi hit
 have HBO:=Hi ((Below.refl W.heap.size W).alloc (Nat.le_refl _) o)
 have HK:=Hi (show KeyI l J Fp W W.heap.size M [] l Fp (W.alloc o) from ⟨by simp,HJ.out _ _ _ _ HI0.out (Turns.of_below HBO.out),HIT.out,fun h=>Nat.lt_irrefl _ (HLT.out _ _ _ HI0.out _ h),Nat.le_refl _,Turns.of_below HBO.out,Grows.refl _ _⟩)
 clear h0 hm hW hFp hJ hlt hY hI0 k1 hit HIT HBO HM HI0
 simp only [List.append_toArray,List.cons_append,List.nil_append]
 go_enter Tryz.func287,Tryz.ntmps287
 go_wp2_with fail
 clear yb hrg
 generalize W.alloc o=w1 at *
 go_loopg [] (l.length+1) (fun g wr=>∃ pre left F1,KeyI l J Fp W W.heap.size M pre left F1 wr∧left.length<g)
 case atStart=>exact ⟨_,_,_,HK.out,Nat.lt_succ_self _⟩
 case round =>
  clear HK
  obtain ⟨pre,left,F1,hK,hlg⟩:=hrel
  obtain ⟨g1,rfl⟩:∃ g1,gk=g1+1:=⟨gk - 1,by omega⟩
  have HK:=Hi hK
  have HLG:=Hi hlg
  clear hK hlg
  rcases HK.out.it.next 0 with ⟨h0,hnx⟩ | ⟨b,left',w2,hp,hnx,ht2,hit2,hen⟩
  ·have HE:=Hi (show Keyed1 l J Jx Fp W (.returned (.tuple #[])) wr from by
    have h2:=HK.out.all
    rw [h0] at h2
    simp only [List.map_nil,List.append_nil] at h2
    exact ⟨⟨_,rfl⟩,F1,HK.out.turns,HK.out.grows,Or.inl ⟨pre,h2,HK.out.inv⟩⟩)
   clear HK HLG h0 HY
   go_wp2
   go_end0
   exact HE.out
  ·have HP:=Hi (show ((pre ++ [b.1]) ++ left'.map Prod.fst).Perm (l.map Prod.fst) from by
    rw [List.append_assoc]
    exact (List.Perm.append_left pre (hp.map Prod.fst)).trans HK.out.all)
   have HLT2:=Hi (show left'.length<g1 from by have h1:=hp.length_eq; have h2:=HLG.out; simp only [List.length_cons] at h1; omega)
   have HJ2:=Hi (HJ.out _ _ _ _ HK.out.inv (ht2.mono fun k _ hk h=>HK.out.fr (by rw [← hk]; exact h)))
   have HT2:=Hi (show Turns (fun k=>Fp k∨W.heap.size≤k) W w2 from HK.out.turns.trans (ht2.mono fun k _ hk=>Or.inl (Or.inr (by rw [hk]; exact HK.out.lr))))
   have HIT2:=Hi hit2
   clear hp ht2 hit2 HLG
   go_upto_region 3 with (refine wpList_store_newag stT rfl _ _ rfl rfl _ (A:=#[.int .i64 b.1.1,.int .i64 b.1.2]) rfl rfl rfl (stA_one _ _) ?_; intro w3 hv3 hb3)
   clear hnx hen
   have HX:=Hi hv3
   replace HJ2:=Hi (HJ.out _ _ _ _ HJ2.out (Turns.of_below hb3))
   replace HT2:=Hi (HT2.out.trans (Turns.of_below hb3))
   replace HIT2:=Hi (HIT2.out.below hb3)
   clear hv3 hb3
   obtain ⟨fn,tmps,assign,body,hyr,hR⟩:=HY.out pre b.1 F1 w3 HJ2.out ⟨_,HP.out⟩
   have HR:=Hi hR
   clear hR
   refine (wpIn_wide (n:=0)).1 ?_
   gi_wp2_with (refine wpListIn_load_ag stT rfl _ rfl _ rfl (A:=#[.int .i64 b.1.1,.int .i64 b.1.2]) rfl HX.out ?_)
   refine ⟨rfl,HR.out.mono ?_⟩
   rintro e w4 ⟨F3,ht4,hg4,(⟨rfl,hj4⟩ | ⟨rfl,hj4⟩)⟩
   ·have HK4:=Hi (show KeyI l J Fp W W.heap.size M (pre ++ [b.1]) left' F3 w4 from
     ⟨HP.out,hj4,HIT2.out.turns ht4 HK.out.fr (fun h=>(HK.out.grows _ h).elim HNM.out.1 fun h=>by have:=HNM.out.2; omega),fun h=>(hg4 _ h).elim HK.out.fr fun h=>by have:=HIT2.out.ltR; omega,HK.out.lr,
      HT2.out.trans (ht4.mono fun k _ hk=>Or.inl (HK.out.grows k hk)),fun k hk=>(hg4 k hk).elim (HK.out.grows k) fun h=>Or.inr (Nat.le_trans HT2.out.size h)⟩)
    clear HK HR ht4 hg4 hj4 hyr HJ2 HT2 HIT2 HP HX
    gi_wp2
    go_wp2
    go_roundg g1
    case rel=>exact ⟨_,_,_,HK4.out,HLT2.out⟩
    case measure=>omega
   ·have HE:=Hi (show Keyed1 l J Jx Fp W (.returned (.tuple #[])) w4 from
     ⟨⟨_,rfl⟩,F3,HT2.out.trans (ht4.mono fun k _ hk=>Or.inl (HK.out.grows k hk)),fun k hk=>(hg4 k hk).elim (HK.out.grows k) fun h=>Or.inr (Nat.le_trans HT2.out.size h),Or.inr ⟨_,⟨_,HP.out⟩,hj4⟩⟩)
    clear HK HR ht4 hg4 hj4 hyr HJ2 HT2 HIT2 HP HX HY
    gi_wp2
    go_wp2
    go_end0
    exact HE.out
theorem keysA_any (m:Option Nat) (w:World):Calls Tryz.prog 187 #[.map m] w fun e w'=>e=.returned (.func (.func 258) #[] #[.pointer (some ⟨w.heap.size,0,none⟩)])∧AgAt w' w.heap.size #[.map m]∧Below w.heap.size w w':=by
 have HE:=Hi (show AgAt (w.alloc (.cells #[.map m] 237)) w.heap.size #[.map m]∧Below w.heap.size w (w.alloc (.cells #[.map m] 237)) from ⟨AgAt.new _ _ _,(Below.refl _ _).alloc (Nat.le_refl _) _⟩)
 go_enter Tryz.func187,Tryz.ntmps187
 go_wp2
 go_ret
 exact ⟨rfl,HE.out⟩
theorem keysB_any (m:Option Nat) (w:World):Calls Tryz.prog 244 #[.map m] w fun e w'=>e=.returned (.func (.func 287) #[] #[.pointer (some ⟨w.heap.size,0,none⟩)])∧AgAt w' w.heap.size #[.map m]∧Below w.heap.size w w':=by
 have HE:=Hi (show AgAt (w.alloc (.cells #[.map m] 242)) w.heap.size #[.map m]∧Below w.heap.size w (w.alloc (.cells #[.map m] 242)) from ⟨AgAt.new _ _ _,(Below.refl _ _).alloc (Nat.le_refl _) _⟩)
 go_enter Tryz.func244,Tryz.ntmps244
 go_wp2
 go_ret
 exact ⟨rfl,HE.out⟩
theorem keysB1_nil {b0:Nat} {F0:Nat→Prop} (w:World) (h0:AgAt w b0 #[.map none]) :
  SeqFp Tryz.prog 287 #[.pointer (some ⟨b0,0,none⟩)] snV (fun xs=>xs=[]) (fun _=>False) F0 w:=by
 intro l0 J Jx W Fp hW hFp hJ hlt hY hI0
 refine Calls.mono (R:=fun e W'=>(∃ v,e=.returned v)∧∃ Fp',Turns (fun k=>Fp k∨W.heap.size≤k) W W'∧Grows Fp Fp' W∧((∃ xs,xs=[]∧J xs Fp' W')∨(∃ pre,False∧Jx pre Fp' W'))) ?_ fun e W' h=>h
 have yb:=AgAt.cell (AgAt.kept h0 hW) 0
 have hb:=(Below.refl W.heap.size W).alloc (Nat.le_refl _) (.mapIter none 0 #[] 0)
 have HE:=Hi (show (∃ v,(Ending.returned (.tuple #[]))=.returned v)∧∃ Fp',Turns (fun k=>Fp k∨W.heap.size≤k) W (W.alloc (.mapIter none 0 #[] 0))∧Grows Fp Fp' W∧((∃ xs,xs=[]∧J xs Fp' (W.alloc (.mapIter none 0 #[] 0)))∨(∃ pre,False∧Jx pre Fp' (W.alloc (.mapIter none 0 #[] 0)))) from
  ⟨⟨_,rfl⟩,Fp,Turns.of_below hb,Grows.refl _ _,Or.inl ⟨[],rfl,hJ _ _ _ _ hI0 (Turns.of_below hb)⟩⟩)
 have hrg:=run_range_nilMap (P:=Tryz.prog) W 242 _ _ Tryz.underlying242
 have hnx:∀ ty,(Instr.next (.pointer (some ⟨W.heap.size,0,none⟩)) false ty).run Tryz.prog (W.alloc (.mapIter none 0 #[] 0))=_:=fun ty=>run_next_nilMap _ ty 0 0 #[]
 clear h0 hW hFp hJ hlt hY hI0 hb
 simp only [List.append_toArray,List.cons_append,List.nil_append]
 go_enter Tryz.func287,Tryz.ntmps287
 go_wp2_with fail
 go_loopg [] 1 (fun _ wr=>wr=W.alloc (.mapIter none 0 #[] 0))
 case atStart=>rfl
 case round =>
  subst hrel
  go_wp2
  go_end0
  exact HE.out
open Go.RowKit
open Tm (Sp Tr has put cut kids)
def Asided (A:Qm.St→Prop) (w:World) (e:Ending) (w':World):Prop :=
 ∃ v xs,(∀ y,y ∈ xs↔A y)∧xs.length≤80∧e=.returned v∧w'.ownsRow w.heap.size 35 2 v xs.length (stCells xs)∧Below w.heap.size w w'
theorem aside1_any {X:Gx} {χ:Nat→Nat} {g:Gm.G} {sb:Nat} (x:Qm.St) (w:World) (h:Core w X χ g) (hs:AgAt w sb #[ptV X.b]) (hx:StWf x) :
  Calls Tryz.prog 241 #[snV x,ptV sb] w (Asided (fun y=>g.m x=some y) w):=by
 have hb:=(Below.refl w.heap.size w).alloc (Nat.le_refl _) (.cells (stA x) 35)
 have HN:=Hi (AgAt.new w (stA x) 35)
 have HC:=Hi (h.kept hb)
 have HSB:=Hi (AgAt.kept hs hb)
 have HB:=Hi hb
 have HWN:=Hi hx
 clear h hb hs hx
 obtain ⟨ib,hib⟩:∃ b,b=(lookL X.L x).isSome:=⟨_,rfl⟩
 obtain ⟨va,hva⟩:∃ s,s=(lookL X.L x).getD (0,0):=⟨_,rfl⟩
 have HIB:=Hi hib
 have HVA:=Hi hva
 clear hib hva
 go_enter Tryz.func241,Tryz.ntmps241
 go_upto_region 1 with fail
 generalize w.alloc (.cells (stA x) 35)=w1 at *
 have hbd:=Below.drew (Below.refl w1.heap.size w1)
 replace HC:=Hi (HC.out.kept hbd)
 replace HN:=Hi (AgAt.kept HN.out hbd)
 replace HSB:=Hi (AgAt.kept HSB.out hbd)
 replace HB:=Hi (HB.out.trans (hbd.mono HB.out.size))
 refine wp_region_held_drew (S:=fun W=>Below w1.drew.heap.size w1.drew W) (by kernel_rfl) (Below.refl _ _) (fun hS=>?_)
 clear hbd
 generalize w1.drew=wd at *
 refine tK 0 (v:=?_) rfl ?_ hS ?_
 rotate_left
 ·intro W hSW
  have ys:W.cell? ⟨sb,0,none⟩=some (ptV X.b):=(AgAt.cell (AgAt.kept HSB.out hSW) 0).trans rfl
  go_simp
  all_goals with_reducible rfl
 refine tX 1 rfl hS ?_
 refine tX 2 rfl hS ?_
 refine tK 3 (v:=?_) rfl ?_ hS ?_
 rotate_left
 ·intro W hSW
  have y:=(HC.out.kept hSW).c3
  go_simp
  all_goals with_reducible rfl
 go_simp
 refine tK 4 (v:=snV x) rfl (fun W hSW=>exec_load_ag stT rfl rfl rfl (AgAt.kept HN.out hSW)) hS ?_
 go_simp
 refine tK 5 (v:=.tuple #[snV va,.bool ib]) rfl (fun W hSW=>exec_lookup rfl rfl rfl (by rw [HIB.out,HVA.out]; exact (HC.out.kept hSW).ms.look1 _ HWN.out)) hS ?_
 refine tX 6 rfl hS ?_
 refine tX 7 rfl hS ?_
 refine tX 8 rfl hS ?_
 go_simp
 refine rD 9 rfl (fun K hK=>?_)
 have HS0:=Hi hS
 go_simp
 have hba:=(Below.refl wd.heap.size wd).alloc (Nat.le_refl _) (.cells #[.int .i64 0,.int .i64 0] 35)
 refine hK.out _ _ (hS.trans (hba.mono hS.size)) (fun hS=>?_)
 clear hK K hba
 refine rD 10 rfl (fun K hK=>?_)
 refine step_of (by kernel_rfl) ?_
 refine wp_store_newag stT _ _ rfl rfl _ (A:=stA va) rfl rfl rfl (stA_one _ _) ?_
 intro w5 hv5 hb5
 have HV5:=Hi hv5
 refine hK.out _ _ (HS0.out.trans (hb5.mono HS0.out.size)) (fun hS=>?_)
 clear hK K hv5 hb5
 refine tX 11 rfl hS ?_
 go_simp
 refine wpAnyH_done (by kernel_rfl) ?_ _
 go_simp
 replace HB:=Hi (HB.out.trans (hS.mono HB.out.size))
 have HM:=Hi (fun y=>HC.out.hm y)
 clear hS HS0 HC HSB HN
 cases ib with
 | false =>
  have HE:=Hi (show Asided (fun y=>g.m x=some y) w (.returned (.slice none 0 0)) w5 from ⟨_,[],(fun y=>by
   have h1:=HIB.out
   rw [HM.out] at h1
   cases e:g.m x with
   | none=>exact ⟨fun h=>(by cases h),fun h=>(by have h2:none=some y:=h; cases h2)⟩
   | some m=>rw [e] at h1; cases h1),Nat.zero_le _,rfl,World.ownsRow_nil _ _ _ _,HB.out⟩)
  clear HB HV5
  go_wp2
  go_ret
  exact HE.out
 | true =>
  have HE:=Hi (show Asided (fun y=>g.m x=some y) w (.returned (.slice (some ⟨w5.heap.size,0,none⟩) 1 1)) (w5.alloc (.cells (stA va) 35)) from ⟨_,[va],(fun y=>by
   have h1:=HIB.out
   have h2:=HVA.out
   rw [HM.out] at h1 h2
   cases e:g.m x with
   | none=>rw [e] at h1; cases h1
   | some m =>
    rw [e] at h2
    have h3:va=m:=h2
    rw [h3,List.mem_singleton]
    exact ⟨fun h=>(by rw [h]),fun h=>(by have h4:some m=some y:=h; cases h4; rfl)⟩),(show 1≤80 from by decide),rfl,own_stG w5 va _ HB.out.size,HB.out.trans ((Below.refl _ _).alloc HB.out.size _)⟩)
  clear HB
  go_wp2_with (first | (refine wpList_load_ag stT (by kernel_rfl) _ rfl _ rfl (A:=stA va) rfl HV5.out ?_) | (refine wpList_buildG rfl _ rfl va rfl ?_))
  go_ret
  exact HE.out
theorem aside2_any {X:Gx} {χ:Nat→Nat} {g:Gm.G} {sb:Nat} (x:Qm.St) (w:World) (h:Core w X χ g) (hs:AgAt w sb #[ptV X.b]) (hx:StWf x) :
  Calls Tryz.prog 242 #[snV x,ptV sb] w (Asided (fun y=>g.m y=some x) w):=by
 have hb:=(Below.refl w.heap.size w).alloc (Nat.le_refl _) (.cells (stA x) 35)
 have HN:=Hi (AgAt.new w (stA x) 35)
 have HC:=Hi (h.kept hb)
 have HSB:=Hi (AgAt.kept hs hb)
 have HB:=Hi hb
 have HWN:=Hi hx
 clear h hb hs hx
 obtain ⟨ko,hko⟩:∃ b,kidOf X.D x=b:=⟨_,rfl⟩
 have HKO:=Hi hko
 obtain ⟨K,hK0⟩:∃ K:List Qm.St,(∀ y,y ∈ K↔g.m y=some x)∧K.Nodup∧∀ c,ko=some c→∃ d ∈ X.D,d.b=c∧d.l=K:=by
  cases ko with
  | none=>exact ⟨[],fun y=>⟨fun h=>(by cases h),fun h=>absurd ((HC.out.hm y).trans h) (HC.out.ms.kidNone hko y)⟩,List.nodup_nil,fun c h=>(by cases h)⟩
  | some kb =>
   obtain ⟨c,h1,h2,h3,h4,-,h6⟩:=HC.out.ms.kidSome hko
   have h7:c.l.Nodup:=by
    have:=h4.nd
    unfold nodesOf at this
    rw [List.map_map,show (Prod.fst ∘ fun n:Qm.St=>(n,Value.agg #[]))=id from rfl,List.map_id] at this
    exact this
   exact ⟨c.l,fun y=>by rw [h6 y,HC.out.hm],h7,fun c' hc'=>⟨c,h1,by rw [h3]; exact Option.some.inj hc',rfl⟩⟩
 have HKK:=Hi hK0
 have hlen:K.length≤80:=by
  have h1:=Tm.len_le (b:=X.L.map Prod.fst) hK0.2.1 fun y hy=>by
   have h2:=(hK0.1 y).1 hy
   rw [← HC.out.hm] at h2
   exact List.mem_map.2 ⟨_,lookL_mem h2,rfl⟩
  rw [List.length_map] at h1
  have:=HC.out.lenL
  have:=HC.out.few
  omega
 have HKS:=Hi (show ∀ xs:List Qm.St,xs.Perm K→(∀ y,y ∈ xs↔g.m y=some x)∧xs.length≤80 from fun xs hp=>⟨fun y=>by rw [hp.mem_iff]; exact HKK.out.1 y,by rw [hp.length_eq]; exact hlen⟩)
 have HCOL:=Hi (fun (w1:World) (hc:Core w1 X χ g) (b0:Nat) (hu:AgAt w1 b0 #[.map ko])=>show Calls Tryz.prog 243 #[.func (.func 287) #[] #[.pointer (some ⟨b0,0,none⟩)]] w1 (Collected (fun xs=>xs.Perm K) w1) from by
  refine collect_any (gf:=287) (lb:=#[.pointer (some ⟨b0,0,none⟩)]) (Sp:=fun pre=>∃ rest,(pre ++ rest).Perm K) w1 (enters_of Tryz.func287 (by kernel_rfl) rfl) ?_ (fun pre ⟨rest,hr⟩=>by have:=hr.length_eq; rw [List.length_append] at this; omega)
  cases ko with
  | none =>
   have hk:K=[]:=List.eq_nil_iff_forall_not_mem.2 fun y hy=>HC.out.ms.kidNone HKO.out y ((HC.out.hm y).trans ((HKK.out.1 y).1 hy))
   exact (keysB1_nil w1 hu).impG (fun xs hx=>by rw [hx,hk]) (fun _ h=>h.elim)
  | some kb =>
   obtain ⟨d,hd,hdb,hdl⟩:=HKK.out.2.2 kb rfl
   have hm:=hc.ms.inner d hd
   rw [hdb,hdl] at hm
   have hn:(nodesOf K).map Prod.fst=K:=by unfold nodesOf; rw [List.map_map,show (Prod.fst ∘ fun n:Qm.St=>(n,Value.agg #[]))=id from rfl,List.map_id]
   refine (keysB1_seq (F0:=fun k=>w1.heap.size≤k) w1 hu hm (fun h=>by have:=hm.lt; have:w1.heap.size≤kb:=h; omega)).impG (fun xs hx=>?_) (fun pre ⟨rest,hr⟩=>⟨rest,?_⟩)
   ·rw [hn] at hx; exact hx
   ·rw [hn] at hr; exact hr)
 clear hko hK0 hlen HKK
 go_enter Tryz.func242,Tryz.ntmps242
 go_upto_region 1 with fail
 generalize w.alloc (.cells (stA x) 35)=w1 at *
 have hbd:=Below.drew (Below.refl w1.heap.size w1)
 replace HC:=Hi (HC.out.kept hbd)
 replace HN:=Hi (AgAt.kept HN.out hbd)
 replace HSB:=Hi (AgAt.kept HSB.out hbd)
 replace HB:=Hi (HB.out.trans (hbd.mono HB.out.size))
 refine wp_region_held_drew (S:=fun W=>Below w1.drew.heap.size w1.drew W) (by kernel_rfl) (Below.refl _ _) (fun hS=>?_)
 clear hbd
 generalize w1.drew=wd at *
 refine tK 0 (v:=?_) rfl ?_ hS ?_
 rotate_left
 ·intro W hSW
  have ys:W.cell? ⟨sb,0,none⟩=some (ptV X.b):=(AgAt.cell (AgAt.kept HSB.out hSW) 0).trans rfl
  go_simp
  all_goals with_reducible rfl
 refine tX 1 rfl hS ?_
 refine tX 2 rfl hS ?_
 refine tK 3 (v:=?_) rfl ?_ hS ?_
 rotate_left
 ·intro W hSW
  have y:=(HC.out.kept hSW).c4
  go_simp
  all_goals with_reducible rfl
 go_simp
 refine tK 4 (v:=snV x) rfl (fun W hSW=>exec_load_ag stT rfl rfl rfl (AgAt.kept HN.out hSW)) hS ?_
 go_simp
 refine tK 5 (v:=.map ko) rfl (fun W hSW=>exec_lookup rfl rfl rfl (((HC.out.kept hSW).ms.lookB _ HWN.out).trans (by rw [HKO.out]))) hS ?_
 go_simp
 refine rD 6 rfl (fun K hK=>?_)
 go_simp
 go_wp2_with (go_at_call 244; refine (keysB_any ko _).mono ?_; rintro e wk ⟨rfl,hk0,hkb⟩)
 have HK0:=Hi hk0
 have HKN:=Hi (show wd.heap.size<wk.heap.size from AgAt.lt hk0)
 refine hK.out _ _ (hS.trans (hkb.mono hS.size)) (fun hS=>?_)
 clear hK K hk0 hkb
 have HCO:=Hi (HCOL.out wk (HC.out.kept hS) _ HK0.out)
 refine rD 7 rfl (fun K hK=>?_)
 go_simp
 go_wp2_with (go_at_call 243; refine HCO.out.mono ?_; rintro e wc ⟨v,xs,hxs,rfl,hov,hcb⟩)
 have HE:=Hi (show Asided (fun y=>g.m y=some x) w (.returned v) wc from ⟨v,xs,fun y=>(HKS.out xs hxs).1 y,(HKS.out xs hxs).2,rfl,ownsRow_base hov (by have:=HB.out.size; have:=hS.size; omega),(HB.out.trans (hS.mono HB.out.size)).trans (hcb.mono (by have:=HB.out.size; have:=hS.size; omega))⟩)
 refine hK.out _ _ (hS.trans (hcb.mono hS.size)) (fun hS=>?_)
 clear hK K hov hcb hxs HCO
 refine tX 8 rfl hS ?_
 go_simp
 refine wpAnyH_done (by kernel_rfl) ?_ _
 go_simp
 clear hS HB HC HCOL HKS
 go_wp2
 go_ret
 exact HE.out
end Go.Proofs.YthfhefdfehlbkaaGreat

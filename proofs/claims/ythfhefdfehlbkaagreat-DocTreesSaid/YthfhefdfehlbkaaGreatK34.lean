/-
  THE LAW's Light: are batches few and small?
  No conditions.
  THE LAW's Light: are batches few and small, all together?
  No conditions.
  THE LAW's All: own copies of batches.
  No conditions but sizes.
  DOCTREES: the walk: each node has one parent, and reaches the root or the trash; all rows together are all nodes.
  No conditions but sizes.
-/
import Derived.Test.YthfhefdfehlbkaaGreatSh
import Derived.Test.YthfhefdfehlbkaaGreatK10
import Derived.Test.YthfhefdfehlbkaaGreatK06
import Derived.Test.YthfhefdfehlbkaaGreatK27
import Derived.Test.YthfhefdfehlbkaaGreatK07
import Derived.Test.YthfhefdfehlbkaaGreatK33
set_option maxRecDepth 100000
set_option maxHeartbeats 32000000
namespace Go.Proofs.YthfhefdfehlbkaaGreat
open Go.RowKit
def light1 (x:Bat):Bool:=lightT x && decide (x.ops.length≤20)
def light9 (l:List Be):Bool:=(l.all fun e=>light1 e.x) && decide (l.length≤80)
theorem light9_no {l:List Be} {k:Nat} (hk:k<l.length) (h:light1 (beOf l k).x=false):light9 l=false:=by
 unfold light9
 rw [Bool.and_eq_false_iff]
 refine Or.inl ?_
 rw [List.all_eq_false]
 exact ⟨_,beOf_mem hk,by rw [h]; simp⟩
theorem light9_end {l:List Be} {k:Nat} (hk:k=l.length∨k=90) (hl:k≤l.length) (h:∀ j,j<k→light1 (beOf l j).x=true):light9 l=decide (l.length≤80):=by
 unfold light9
 by_cases h80:l.length≤80
 ·obtain rfl:k=l.length:=by omega
  have:(l.all fun e=>light1 e.x)=true:=List.all_eq_true.2 fun e he=>by
   obtain ⟨j,hj,rfl⟩:=List.mem_iff_getElem.1 he
   have:=h j hj
   rwa [show beOf l j=l[j] from by simp [beOf,hj]] at this
  rw [this,Bool.true_and]
 ·rw [decide_eq_false h80,Bool.and_false]
theorem light9_mem {l:List Be} (h:light9 l=true) {e:Be} (he:e ∈ l):lightT e.x=true∧e.x.ops.length≤20:=by
 simp only [light9,light1,Bool.and_eq_true,decide_eq_true_eq,List.all_eq_true] at h
 exact h.1 e he
theorem light9_any (p:Option Addr) (c:Nat) (l:List Be) (w:World) (h:Rd w p (beCells l)) (ho:∀ e,e ∈ l→Bops w e.x e.p e.c) :
  Calls Tryz.prog 112 #[.slice p l.length c] w fun e w'=>e=.returned (.bool (light9 l))∧Below w.heap.size w w':=by
 have HR:=Hi (fun W (hW:Below w.heap.size w W)=>h.below hW)
 have HLI:=Hi (fun (k:Nat) (hk:k<l.length) W (hW:Below w.heap.size w W)=>light_any (beOf l k).x (beOf l k).p (beOf l k).c W ((ho _ (beOf_mem hk)).kept hW))
 clear h ho
 go_enter Tryz.func112,Tryz.ntmps112
 go_wp2
 go_loopw [3] (fun i wr=>∃ k:Nat,k≤l.length∧k≤90∧i=.int .i64 (k:Int)∧(∀ j,j<k→light1 (beOf l j).x=true)∧Below w.heap.size w wr) (fun i _=>l.length - (intOf i).toNat)
 case atStart=>exact ⟨0,Nat.zero_le _,by omega,rfl,fun j hj=>by omega,Below.refl _ _⟩
 case round =>
  obtain ⟨k,hk,hk9,rfl,hgood,hbw⟩:=hrel
  have HG:=Hi hgood
  have HB:=Hi hbw
  clear hgood hbw
  by_cases hlt:k<l.length
  ·have hd0:decide ((k:Int)<(l.length:Int))=true:=decide_eq_true (by omega)
   by_cases h90:k<90
   ·have hd1:decide ((k:Int)<90)=true:=decide_eq_true (by omega)
    have HRD:=Hi (HR.out _ HB.out)
    obtain ⟨b,o,rfl,-⟩:=HRD.out.addr (by rw [beCells_length]; omega)
    have HC:=Hi (HLI.out k hlt wr HB.out)
    have HN:=Hi (fun (h:light1 (beOf l k).x=false)=>light9_no hlt h)
    have HGK:=Hi (fun (h:light1 (beOf l k).x=true)=>(fun j hj=>by
     by_cases e:j=k
     ·rw [e]; exact h
     ·exact HG.out j (by omega):∀ j,j<k+1→light1 (beOf l j).x=true))
    go_wp2_with (refine wpList_load_be btR rfl _ rfl b o k rfl l HRD.out hlt ?_)
    refine HC.out.mono ?_
    rintro e w2 ⟨rfl,hb2⟩
    have hrd2:=(HRD.out.below hb2).be k hlt
    have HB2:=Hi (HB.out.trans (hb2.mono HB.out.size))
    have y3:=hrd2 3 _ rfl
    clear hb2 hrd2
    cases hl:lightT (beOf l k).x with
    | false =>
     have HE:=Hi (HN.out (by unfold light1; rw [hl]; rfl))
     clear hl
     go_wp2
     go_ret
     exact ⟨by rw [HE.out]; rfl,HB2.out⟩
    | true =>
     by_cases h20:(beOf l k).x.ops.length≤20
     ·have hd2:decide (20<((beOf l k).x.ops.length:Int))=false:=decide_eq_false (by omega)
      have HGN:=Hi (HGK.out (by unfold light1; rw [hl,decide_eq_true h20]; rfl))
      clear hl h20
      go_wp2
      go_roundw
      case rel=>exact ⟨k+1,by omega,by omega,by go_num,HGN.out,HB2.out⟩
      case measure=>simp [intOf]; omega
     ·have hd2:decide (20<((beOf l k).x.ops.length:Int))=true:=decide_eq_true (by omega)
      have HE:=Hi (HN.out (by unfold light1; rw [hl,decide_eq_false h20]; rfl))
      clear hl h20
      go_wp2
      go_ret
      exact ⟨by rw [HE.out]; rfl,HB2.out⟩
   ·have hd1:decide ((k:Int)<90)=false:=decide_eq_false (by omega)
    have HE:=Hi (light9_end (Or.inr (by omega)) hk HG.out)
    go_wp2
    go_ret
    exact ⟨by rw [HE.out,← show decide ((l.length:Int)≤80)=decide (l.length≤80) from decide_eq_decide.2 (by omega)]; rfl,HB.out⟩
  ·obtain rfl:k=l.length:=by omega
   have hd0:decide ((l.length:Int)<(l.length:Int))=false:=decide_eq_false (by omega)
   have HE:=Hi (light9_end (Or.inl rfl) (Nat.le_refl _) HG.out)
   go_wp2
   go_ret
   exact ⟨by rw [HE.out,← show decide ((l.length:Int)≤80)=decide (l.length≤80) from decide_eq_decide.2 (by omega)]; rfl,HB.out⟩
open Go.RowKit
structure Few (l:List Be):Prop where
 len:l.length≤30
 wt:wtB (l.map (·.x))≤70
 light:light9 l=true
theorem Few.mem {l:List Be} (h:Few l) {e:Be} (he:e ∈ l):lightT e.x=true:=(light9_mem h.light he).1
theorem wtB_snoc {l:List Be} {k:Nat} (hk:k<l.length):wtB ((l.take (k+1)).map (·.x))=wtB ((l.take k).map (·.x))+(beOf l k).x.ops.length:=by
 rw [List.take_succ_eq_append_getElem hk,List.map_append,wtB_append]
 simp [beOf,hk,wtB]
theorem light14_any (p:Option Addr) (c:Nat) (l:List Be) (w:World) (h:Rd w p (beCells l)) (ho:∀ e,e ∈ l→Bops w e.x e.p e.c) :
  Calls Tryz.prog 29 #[.slice p l.length c] w fun e w'=>∃ b,e=.returned (.bool b)∧(b=true→Few l)∧Below w.heap.size w w':=by
 have HR:=Hi (fun W (hW:Below w.heap.size w W)=>h.below hW)
 have HLI:=Hi (fun (k:Nat) (hk:k<l.length) W (hW:Below w.heap.size w W)=>light_any (beOf l k).x (beOf l k).p (beOf l k).c W ((ho _ (beOf_mem hk)).kept hW))
 have HL9:=Hi (fun W (hW:Below w.heap.size w W)=>light9_any p c l W (h.below hW) fun e he=>(ho e he).kept hW)
 clear h ho
 go_enter Tryz.func29,Tryz.ntmps29
 go_wp2
 go_loopw [3,4] (fun n i wr=>∃ k m:Nat,k≤l.length∧k≤40∧n=.int .i64 (m:Int)∧i=.int .i64 (k:Int)∧(m=wtB ((l.take k).map (·.x))∧m≤70 * k)∧Below w.heap.size w wr) (fun _ i _=>l.length - (intOf i).toNat)
 case atStart=>exact ⟨0,0,Nat.zero_le _,by omega,rfl,rfl,⟨rfl,by omega⟩,Below.refl _ _⟩
 case round =>
  obtain ⟨k,m,hk,hk9,rfl,rfl,⟨hm,hm2⟩,hbw⟩:=hrel
  have HM:=Hi hm
  have HB:=Hi hbw
  clear hm hbw
  have hout:l.length=k∨k=40∧40<l.length∨k<l.length∧k<40:=by omega
  by_cases hlt:k<l.length
  ·have hd0:decide ((k:Int)<(l.length:Int))=true:=decide_eq_true (by omega)
   by_cases h40:k<40
   ·have hd1:decide ((k:Int)<40)=true:=decide_eq_true (by omega)
    have HRD:=Hi (HR.out _ HB.out)
    obtain ⟨b,o,rfl,-⟩:=HRD.out.addr (by rw [beCells_length]; omega)
    have HC:=Hi (HLI.out k hlt wr HB.out)
    go_wp2_with (refine wpList_load_be btR rfl _ rfl b o k rfl l HRD.out hlt ?_)
    refine HC.out.mono ?_
    rintro e w2 ⟨rfl,hb2⟩
    have hrd2:=(HRD.out.below hb2).be k hlt
    have HB2:=Hi (HB.out.trans (hb2.mono HB.out.size))
    have y3:=hrd2 3 _ rfl
    clear hb2 hrd2 hout
    cases hl:lightT (beOf l k).x with
    | false =>
     clear hl
     go_wp2
     go_ret
     exact ⟨false,rfl,(fun h=>by cases h),HB2.out⟩
    | true =>
     have hln:=light_len hl
     have HS:=Hi (wtB_snoc hlt)
     have hw1:IntKind.i64.wrap ((m:Int)+((beOf l k).x.ops.length:Int))=((m+(beOf l k).x.ops.length:Nat):Int):=by rw [wraps_i64 _ (by omega) (by omega)]; omega
     clear hl
     generalize (beOf l k).x.ops.length=nn at *
     go_wp2
     go_roundw
     case rel=>exact ⟨k+1,m+nn,by omega,by omega,rfl,by go_num,⟨by rw [HS.out,← HM.out],by omega⟩,HB2.out⟩
     case measure=>simp [intOf]; omega
   ·have hd1:decide ((k:Int)<40)=false:=decide_eq_false (by omega)
    have d30:decide ((l.length:Int)≤30)=false:=decide_eq_false (by omega)
    clear hout
    go_wp2
    go_ret
    exact ⟨false,rfl,(fun h=>by cases h),HB.out⟩
  ·have hd0:decide ((k:Int)<(l.length:Int))=false:=decide_eq_false (by omega)
   have HK:=Hi (show k=l.length from by omega)
   clear hout
   by_cases h30:l.length≤30
   ·have d30:decide ((l.length:Int)≤30)=true:=decide_eq_true (by omega)
    by_cases h70:m≤70
    ·have d70:decide ((m:Int)≤70)=true:=decide_eq_true (by omega)
     have HC:=Hi (HL9.out wr HB.out)
     go_wp2_with fail
     refine HC.out.mono ?_
     rintro e w2 ⟨rfl,hb2⟩
     have HE:=Hi (show light9 l=true→Few l from fun h9=>⟨h30,by rw [HM.out,HK.out,List.take_length] at h70; exact h70,h9⟩)
     have HB2:=Hi (HB.out.trans (hb2.mono HB.out.size))
     clear hb2 HC HL9 HLI HR
     generalize light9 l=b9 at *
     go_wp2
     go_ret
     exact ⟨b9,rfl,HE.out,HB2.out⟩
    ·have d70:decide ((m:Int)≤70)=false:=decide_eq_false (by omega)
     go_wp2
     go_ret
     exact ⟨false,rfl,(fun h=>by cases h),HB.out⟩
   ·have d30:decide ((l.length:Int)≤30)=false:=decide_eq_false (by omega)
    go_wp2
    go_ret
    exact ⟨false,rfl,(fun h=>by cases h),HB.out⟩
open Go.RowKit
theorem all9_any (p:Option Addr) (c:Nat) (l:List Be) (w:World) (h:Rd w p (beCells l)) (ho:∀ e,e ∈ l→Bops w e.x e.p e.c) (hs:∀ e,e ∈ l→CpSz e.x) (hl:l.length≤5000):Calls Tryz.prog 50 #[.slice p l.length c] w (Copied l w):=by
 obtain ⟨i0,hi,hz0,hz1,hz2⟩:=info_parts oinfo_bt
 have HR:=Hi (fun W (hW:Below w.heap.size w W)=>h.below hW)
 have HCC:=Hi (fun (k:Nat) (hk:k<l.length) W (hW:Below w.heap.size w W)=>bown_any (beOf l k).x (beOf l k).p (beOf l k).c W ((ho _ (beOf_mem hk)).kept hW) (hs _ (beOf_mem hk)).1 (hs _ (beOf_mem hk)).2)
 clear h ho hs
 go_enter Tryz.func50,Tryz.ntmps50
 go_wp2
 go_loopw [3,4] (fun v i wr=>∃ (k:Nat) (p':Option Addr) (c':Nat) (l':List Be),k≤l.length∧i=.int .i64 (k:Int)∧v=.slice p' k c'∧l'.map (·.x)=(l.take k).map (·.x)∧BRow w.heap.size wr p' c' l'∧Below w.heap.size w wr) (fun _ i _=>l.length - (intOf i).toNat)
 case atStart=>exact ⟨0,none,0,[],Nat.zero_le _,rfl,rfl,rfl,BRow.nil _ _,Below.refl _ _⟩
 case round =>
  obtain ⟨k,p',c',l',hk,rfl,rfl,hm,hrow,hbw⟩:=hrel
  have HLK:=Hi (show l'.length=k from by have:=congrArg List.length hm; simp only [List.length_map,List.length_take] at this; omega)
  have HM:=Hi hm
  have HROW:=Hi hrow
  have HBW:=Hi hbw
  clear hm hrow hbw
  by_cases hlt:k<l.length
  ·have hd0:decide ((k:Int)<(l.length:Int))=true:=decide_eq_true (by omega)
   obtain ⟨b,o,rfl,hb⟩:=(HR.out _ HBW.out).addr (by rw [beCells_length]; omega)
   have HRD:=Hi (HR.out _ HBW.out)
   have HC:=Hi (HCC.out k hlt)
   have HTK:=Hi (show (l.take (k+1)).map (·.x)=(l.take k).map (·.x) ++ [(beOf l k).x] from by
    rw [List.take_succ_eq_append_getElem hlt,List.map_append]
    simp [beOf,hlt])
   go_wp2_with (refine wpList_load_be btR rfl _ rfl b o k rfl l HRD.out hlt ?_)
   refine (HC.out wr HBW.out).mono ?_
   rintro e w5 ⟨p5,c5,rfl,hp5,hb5⟩
   have hb6:=(Below.refl w5.heap.size w5).alloc (Nat.le_refl _) (.cells (btA (beOf l k).x p5 c5) 81)
   have HROW6:=Hi ((HROW.out.kept hb5).kept hb6)
   have HB5:=Hi (HBW.out.trans (hb5.mono HBW.out.size))
   have HB6:=Hi (HB5.out.trans (hb6.mono HB5.out.size))
   have HP6:=Hi (show BopsF (fun j=>w.heap.size≤j∧(Value.slice p' l'.length c').ownBlock≠some j) (w5.alloc (.cells (btA (beOf l k).x p5 c5) 81)) (beOf l k).x p5 c5 from
    ((BopsF.ofN hp5).below hb6).mono fun j _ hj=>⟨Nat.le_trans HBW.out.size hj,fun hh=>by have:=(World.ownsRow.lt HROW.out.own j hh).2; omega⟩)
   have HRW:=Hi (rd_bt_one w5 ⟨(beOf l k).x,p5,c5⟩ 81)
   have HSZ:=Hi (show w.heap.size≤(w5.alloc (.cells (btA (beOf l k).x p5 c5) 81)).heap.size from HB6.out.size)
   rw [HLK.out] at HP6
   have HOW:=Hi HROW6.out.own
   rw [HLK.out] at HOW
   clear hp5 hb5 hb6
   generalize beOf l k=be at *
   go_wp2_with (first | (refine wpList_build_bt rfl _ rfl be.x p5 c5 rfl ?_) | (at_builtin; refine wpList_append_k rfl _ _ 103 rfl w.heap.size 81 i0 _ 4 48 Tryz.underlying103 hi hz0 hz1 (by decide) hz2 (by decide) rfl _ k (beCells l') rfl HOW.out _ 1 1 (beL ⟨be.x,p5,c5⟩) rfl rfl HRW.out (fun h=>by cases h) (beL_one _) (by omega) HSZ.out ?_; intro p7 c7 w7 ho7 hg7 hw7))
   have HE:=Hi (show BRow w.heap.size w7 p7 c7 (l' ++ [⟨be.x,p5,c5⟩]) from by
    have hk:=HLK.out
    have h6:=HROW6.out
    have hpp:=HP6.out
    rw [← hk] at ho7 hg7 hw7 hpp
    exact h6.push hpp ho7 hg7 hw7)
   have HB7:=Hi (show Below w.heap.size w w7 from HB6.out.trans ((Turns.of_grown hg7).below (fun j _ hj=>by
    exact (World.ownsRow.lt HOW.out j hj).1) HSZ.out))
   clear ho7 hg7 hw7
   go_wp2
   go_roundw
   case rel=>exact ⟨k+1,_,_,_,by omega,by go_num,rfl,by rw [HTK.out,List.map_append,HM.out]; rfl,HE.out,HB7.out⟩
   case measure=>simp [intOf]; omega
  ·obtain rfl:k=l.length:=by omega
   have hd0:decide ((l.length:Int)<(l.length:Int))=false:=decide_eq_false (by omega)
   have HE:=Hi (show Copied l w (.returned (.slice p' l.length c')) wr from ⟨p',c',l',rfl,by rw [HM.out,List.take_length],HROW.out,HBW.out⟩)
   go_wp2
   go_ret
   exact HE.out
open Go.RowKit
open Tm (Sp Tr has put cut kids)
theorem Few.sz {l:List Be} (h:Few l) {e:Be} (he:e ∈ l):Szs e.x.ops∧CpSz e.x :=
 ⟨light_szs (h.mem he),by have:=light_len (h.mem he); omega,fun y hy=>by have:=light_path (h.mem he) y hy; omega⟩
theorem Few.sz2 {l l':List Be} (h:Few l) (hm:l'.map (·.x)=l.map (·.x)) {e:Be} (he:e ∈ l'):Szs e.x.ops∧CpSz e.x:=by
 have h1:e.x ∈ l.map (·.x):=by rw [← hm]; exact List.mem_map.2 ⟨e,he,rfl⟩
 obtain ⟨e2,h2,h3⟩:=List.mem_map.1 h1
 rw [← h3]
 exact h.sz h2
theorem docTrees_walk (p:Option Addr) (cl:Nat) (l:List Be) (w:World) (h:Rd w p (beCells l)) (ho:∀ e,e ∈ l→Bops w e.x e.p e.c) :
  Calls Tryz.prog 8 #[.slice p l.length cl] w fun e w'=>e=.returned (.bool true)∧Below w.heap.size w w':=by
 have HR:=Hi h
 have HO:=Hi ho
 have HLI:=Hi (light14_any p cl l w h ho)
 clear h ho
 go_enter Tryz.func8,Tryz.ntmps8
 go_wp2_with fail
 refine HLI.out.mono ?_
 rintro e1 w1 ⟨b1,rfl,hsm,hb1⟩
 have HSM1:=Hi hsm
 have HB:=Hi hb1
 clear hsm hb1 HLI
 cases b1 with
 | false =>
  go_wp2_with fail
  refine (knows14_any _).mono ?_
  rintro e wk ⟨rfl,hbk⟩
  replace HB:=Hi (HB.out.trans (hbk.mono HB.out.size))
  clear hbk
  go_wp2
  go_ret
  exact ⟨rfl,HB.out⟩
 | true =>
  have HF:=Hi (HSM1.out rfl)
  clear HSM1
  have HAL:=Hi (all9_any p cl l w1 (HR.out.below HB.out) (fun e he=>(HO.out e he).kept HB.out) (fun e he=>(HF.out.sz he).2) (by have:=HF.out.len; omega))
  go_wp2_with fail
  refine HAL.out.mono ?_
  rintro e w2 ⟨p2,c2,l2,rfl,hmx,hrow,hb2⟩
  have hll:l2.length=l.length:=by have:=congrArg List.length hmx; simpa using this
  have HOF:=Hi (dof_any p2 c2 l2 w2 hrow.rd.1 (fun e he=>(hrow.ops e he).bops) (fun e he=>HF.out.sz2 hmx he) (by rw [hmx]; have:=HF.out.wt; omega) (by rw [hll]; have:=HF.out.len; omega))
  rw [hll] at HOF
  replace HB:=Hi (HB.out.trans (hb2.mono HB.out.size))
  clear hmx hrow hb2 hll HAL HR HO HF
  go_wp2_with fail
  refine HOF.out.mono ?_
  rintro e w3 ⟨d,rfl,hd,-⟩
  generalize docs (l2.map (·.x))=D at *
  have HG:=Hi hd.hold
  clear hd HOF
  go_wp2_with fail
  refine (knows14_any _).mono ?_
  rintro e w4 ⟨rfl,hbk⟩
  replace HG:=Hi (HG.out.kept hbk)
  have HGOOD:=Hi (Gm.ops_all D.2).good
  clear hbk
  go_wp2_with fail
  refine (DH.nodes HG.out).mono ?_
  rintro e w5 ⟨pm,cm,m,T,rfl,ht,hm,hg⟩
  have HT:=Hi ht
  have HM:=Hi hm
  have hm80:m.length≤80:=by rw [hm.length_eq,List.length_map]; exact ht.few
  replace HG:=Hi hg
  clear hg ht hm
  go_wp2_with fail
  refine (DH.row 0 0 HG.out ⟨by decide,by decide⟩).mono ?_
  rintro e w6 ⟨p6,c6,m6,T6,rfl,ht6,⟨hm6,-⟩,hg⟩
  have HL6:=Hi (HT.out.rowLen ht6 hm6)
  replace HG:=Hi (hg.less (bs':=[]) (rs':=[(pm,stCells m)]) (fun e he=>by cases he) (fun e he=>by simp at he; simp [he]))
  clear hg ht6 hm6
  go_wp2_with fail
  refine (DH.row 0 1 HG.out ⟨by decide,by decide⟩).mono ?_
  rintro e w7 ⟨p7,c7,m7,T7,rfl,ht7,⟨hm7,-⟩,hg⟩
  have hl7:=HT.out.rowLen ht7 hm7
  replace HG:=Hi (hg.less (bs':=[]) (rs':=[(pm,stCells m)]) (fun e he=>by cases he) (fun e he=>by simp at he; simp [he]))
  have ht0:totR T m 0=m6.length+m7.length:=by have h6:=HL6.out; unfold totR; simp [h6,hl7]
  have htl:=totR_le HT.out HM.out 0
  have hw0:IntKind.i64.wrap ((m6.length:Int)+(m7.length:Int))=((totR T m 0:Nat):Int):=by rw [wraps_i64 _ (by omega) (by omega)]; omega
  clear hg ht7 hm7 HL6 hl7 ht0 htl
  generalize m6.length=n6 at *
  generalize m7.length=n7 at *
  go_wp2
  clear hw0
  go_loopw [5,6] (fun t i wr=>∃ k:Nat,k≤m.length∧t=.int .i64 ((totR T m k:Nat):Int)∧i=.int .i64 (k:Int)∧DH w2 d D [] [(pm,stCells m)] wr) (fun _ i _=>m.length - (intOf i).toNat)
  case atStart=>exact ⟨0,Nat.zero_le _,rfl,rfl,HG.out⟩
  case round =>
   clear HG
   obtain ⟨k,hk,rfl,rfl,hg⟩:=hrel
   have HG:=Hi hg
   clear hg
   by_cases hlt:k<m.length
   ·have d0:decide ((k:Int)<(m.length:Int))=true:=decide_eq_true (by omega)
    obtain ⟨bm,om,hbm,-⟩:=(HG.out.rd (p:=pm) (cs:=stCells m) (by simp)).addr (by rw [stCells_length]; omega)
    subst hbm
    obtain ⟨n,hn⟩:∃ n,m[k]?=some n:=⟨_,List.getElem?_eq_getElem hlt⟩
    obtain ⟨s,hs⟩:=HT.out.node HM.out (List.mem_of_getElem? hn)
    have HRN:=Hi (HGOOD.out.nodeN hs)
    obtain ⟨n1,n2⟩:=n
    obtain ⟨⟨p1,p2⟩,key⟩:=s
    have HN:=Hi hn
    clear hn hs
    go_wp2_with (refine wpList_value (by kernel_rfl) (exec_load_stH rfl rfl (HG.out.rd (p:=some ⟨bm,om,none⟩) (cs:=stCells m) (by simp)) HN.out) ?_)
    refine (DH.spot n1 n2 HG.out HRN.out.wn HRN.out.at_).mono ?_
    rintro e wa ⟨rfl,hg⟩
    replace HG:=Hi hg
    clear hg
    go_upto_region 12 with (refine wpList_store_newag spT rfl _ _ rfl rfl _ (A:=spA ((p1,p2),key)) rfl rfl rfl (spA_one _) ?_; intro wb hv8 hb8)
    obtain ⟨bz,hbz⟩:∃ b,b=wa.heap.size:=⟨_,rfl⟩
    rw [← hbz] at hv8 ⊢
    replace HG:=Hi (HG.out.box hb8 hv8 (Nat.le_of_eq hbz.symm))
    clear hv8 hb8 hbz
    go_wp2_with (refine wpList_value (by kernel_rfl) (exec_load_stH rfl rfl (HG.out.rd (p:=some ⟨bm,om,none⟩) (cs:=stCells m) (by simp)) HN.out) ?_)
    refine (DH.above n1 n2 HG.out HRN.out.wn).mono ?_
    rintro e wv ⟨pu,cu,lu,U,rfl,hu,hl,hg⟩
    have HCH:=Hi (show ChainN lu ((p1,p2),key) m.length from by rw [hl]; exact HT.out.chain hu HM.out HRN.out.at_)
    have HLAST:=Hi (show ∀ T2,TreeG (Gm.insAll D.2) T2→∀ t:Qm.St,lu[lu.length - 1]?=some t→∀ {b:Bool},decide (t=(0,0))=b→decide ((Tm.chain T2 (n1,n2)).getLast?=some (0,0))=b from fun T2 h2 t ht b hb=>by
     have e1:Tm.chain T2 (n1,n2)=lu:=by rw [hl]; exact h2.chainEq hu _
     rw [e1,List.getLast?_eq_getElem?,ht,← hb]
     by_cases e:t=(0,0)
     ·rw [e]; rfl
     ·rw [decide_eq_false e,decide_eq_false (fun h=>e (Option.some.inj h))])
    replace HG:=Hi hg
    clear hg hu hl
    obtain ⟨bu,ou,hbu,-⟩:=(HG.out.rd (p:=pu) (cs:=stCells lu) (by simp)).addr (by rw [stCells_length]; have:=HCH.out.pos; omega)
    subst hbu
    have HF0:=Hi (show lu[0]?=some (p1,p2) from HCH.out.first)
    obtain ⟨nl,hnl⟩:∃ nl,nl=lu.length:=⟨_,rfl⟩
    obtain ⟨jl,hjl0⟩:∃ jl,jl=nl - 1:=⟨_,rfl⟩
    have h0l:0<nl:=by rw [hnl]; exact HCH.out.pos
    have hjl:jl<nl:=by omega
    have hle:nl≤m.length:=by rw [hnl]; exact HCH.out.le
    obtain ⟨t,htt,hlast⟩:∃ t:Qm.St,(t=(0,0)∨t=(0,1))∧lu[jl]?=some t:=by
     rw [hjl0,hnl]
     rcases HCH.out.last with h1 | h1
     ·exact ⟨_,Or.inl rfl,h1⟩
     ·exact ⟨_,Or.inr rfl,h1⟩
    rw [← hnl,← hjl0] at HLAST
    obtain ⟨t1,t2⟩:=t
    have HTT:=Hi htt
    have HLA:=Hi hlast
    have c1:((nl:Int) == 0)=false:=by rw [beq_eq_false_iff_ne]; omega
    have c2:decide ((m.length:Int)<(nl:Int))=false:=decide_eq_false (by omega)
    have c4:decide (m.length<nl)=false:=decide_eq_false (by omega)
    have c3:IntKind.i64.wrap ((nl:Int) - 1)=(jl:Int):=by rw [wraps_i64 _ (by omega) (by omega)]; omega
    rw [← hnl]
    clear hnl hjl0 hle htt hlast HCH
    go_upto_region 13 with fail
    obtain ⟨wl,hwl⟩:∃ wl:World,wl=wv:=⟨_,rfl⟩
    subst hwl
    replace HG:=Hi (HG.out.kept (Below.drew (Below.refl wl.heap.size wl)))
    refine wp_region_held_drew (S:=fun W=>Rd W (some ⟨bu,ou,none⟩) (stCells lu)∧AgAt W bz (spA ((p1,p2),key))) (by kernel_rfl) ⟨HG.out.rd (by simp),HG.out.at_ (by simp)⟩ (fun hS=>?_)
    generalize wl.drew=wd at *
    refine tX 0 rfl hS ?_
    refine tX 1 rfl hS ?_
    refine tX 2 rfl hS ?_
    refine tX 3 rfl hS ?_
    go_simp
    refine tX 4 rfl hS ?_
    refine tK 5 (v:=?_) rfl ?_ hS ?_
    rotate_left
    ·intro W hSW
     have c:=c1
     go_simp
     all_goals with_reducible rfl
    refine tX 6 rfl hS ?_
    refine tX 7 rfl hS ?_
    go_simp
    refine tX 8 rfl hS ?_
    refine tX 9 rfl hS ?_
    refine tX 10 rfl hS ?_
    refine tX 11 rfl hS ?_
    go_simp
    refine wpAnyH_take (i:=12) (v:=.bool false) rfl (by kernel_rfl) (by kernel_rfl) (by kernel_rfl) (fun _ _ _ h=>h) (Or.inl ⟨by kernel_rfl,fun W hSW=>by
     have c:=c2
     have c5:=c4
     go_simp⟩) hS ?_
    refine tX 13 rfl hS ?_
    refine tX 14 rfl hS ?_
    refine tX 15 rfl hS ?_
    go_simp
    refine tK 16 (v:=?_) rfl ?_ hS ?_
    rotate_left
    ·intro W hSW
     have c:=h0l
     go_simp
     all_goals with_reducible rfl
    go_simp
    refine tK 17 (v:=.agg #[.int .i64 p1,.int .i64 p2]) rfl (fun W hSW=>exec_load_stH0 rfl rfl hSW.1 HF0.out) hS ?_
    refine tX 18 rfl hS ?_
    go_simp
    refine tK 19 (v:=.agg #[.int .i64 p1,.int .i64 p2]) rfl (fun W hSW=>exec_load_part stT rfl rfl [.int .i64 p1,.int .i64 p2] rfl hSW.2 (spPar (s:=((p1,p2),key)))) hS ?_
    go_simp
    refine tK 20 (v:=.bool false) rfl (fun W hSW=>exec_neq_stH rfl (p1,p2) (p1,p2) rfl rfl (decide_eq_true rfl)) hS ?_
    refine tX 21 rfl hS ?_
    refine tX 22 rfl hS ?_
    refine tX 23 rfl hS ?_
    go_simp
    refine tX 24 rfl hS ?_
    go_simp
    refine tK 25 (v:=.agg #[.int .i64 p1,.int .i64 p2]) rfl (fun W hSW=>exec_load_part stT rfl rfl [.int .i64 p1,.int .i64 p2] rfl hSW.2 (spPar (s:=((p1,p2),key)))) hS ?_
    go_simp
    refine rD 26 rfl (fun K hK=>?_)
    go_simp
    go_wp2_with ((go_at_call 58; refine (DH.has p1 p2 HG.out HRN.out.wp HRN.out.hp).mono ?_; rintro e wn ⟨rfl,hg⟩))
    replace HG:=Hi hg
    refine hK.out _ _ ⟨HG.out.rd (by simp),HG.out.at_ (by simp)⟩ (fun hS=>?_)
    clear hK K hg
    refine tX 27 rfl hS ?_
    refine tX 28 rfl hS ?_
    go_simp
    refine wpAnyH_done (by kernel_rfl) ?_ _
    go_simp
    clear hS
    go_upto_region 16 with (first | (refine wpList_value (by kernel_rfl) (exec_load_stH rfl rfl (HG.out.rd (p:=some ⟨bu,ou,none⟩) (cs:=stCells lu) (by simp)) HLA.out) ?_) | (refine wpList_store_newag stT rfl _ _ rfl rfl _ (A:=stA (t1,t2)) rfl rfl rfl (stA_one _ _) ?_; intro wx hv8 hb8))
    obtain ⟨be,hbz⟩:∃ b,b=wn.heap.size:=⟨_,rfl⟩
    rw [← hbz] at hv8 ⊢
    replace HG:=Hi (HG.out.box hb8 hv8 (Nat.le_of_eq hbz.symm))
    clear hv8 hb8 hbz
    go_simp
    go_cut [110] (fun s110 wc=>s110=.bool false∧DH w2 d D [] [(some ⟨bm,om,none⟩,stCells m)] wc)
    case first =>
     rcases HTT.out with ht | ht
     ·obtain ⟨rfl,rfl⟩:=Prod.mk.inj ht
      clear ht
      have HAL:=Hi (show ∀ T2,TreeG (Gm.insAll D.2) T2→decide ((Tm.chain T2 (n1,n2)).getLast?=some (0,0))=true from fun T2 h2=>HLAST.out T2 h2 _ HLA.out (by decide))
      replace HG:=Hi (HG.out.kept (Below.drew (Below.refl wx.heap.size wx)))
      refine wp_region_held_drew (S:=fun W=>AgAt W be (stA (0,0))∧Rd W (some ⟨bm,om,none⟩) (stCells m)) (by kernel_rfl) ⟨HG.out.at_ (by simp),HG.out.rd (by simp)⟩ (fun hS=>?_)
      generalize wx.drew=wd at *
      refine tK 0 (v:=.agg #[.int .i64 0,.int .i64 0]) rfl (fun W hSW=>exec_load_ag stT rfl rfl rfl hSW.1) hS ?_
      go_simp
      refine tK 1 (v:=.agg #[.int .i64 0,.int .i64 0]) rfl (fun W hSW=>exec_build_zD rfl) hS ?_
      go_simp
      refine tK 2 (v:=.bool false) rfl (fun W hSW=>exec_neq_stH rfl (0,0) (0,0) rfl rfl (by decide)) hS ?_
      refine tX 3 rfl hS ?_
      go_simp
      refine tU 4 rfl hS ?_
      go_simp
      refine tU 5 rfl hS ?_
      go_simp
      refine tU 6 rfl hS ?_
      refine tX 7 rfl hS ?_
      refine tX 8 rfl hS ?_
      refine tX 9 rfl hS ?_
      go_simp
      refine tX 10 rfl hS ?_
      refine tX 11 rfl hS ?_
      refine tX 12 rfl hS ?_
      go_simp
      refine tK 13 (v:=.agg #[.int .i64 n1,.int .i64 n2]) rfl (fun W hSW=>exec_load_stH rfl rfl hSW.2 HN.out) hS ?_
      go_simp
      refine tK 15 (v:=.agg #[.int .i64 0,.int .i64 0]) rfl (fun W hSW=>exec_load_ag stT rfl rfl rfl hSW.1) hS ?_
      go_simp
      refine tK 16 (v:=.agg #[.int .i64 0,.int .i64 0]) rfl (fun W hSW=>exec_build_zD rfl) hS ?_
      go_simp
      refine tK 17 (v:=.bool true) rfl (fun W hSW=>exec_eql_stD rfl (0,0) (0,0) rfl rfl (by decide)) hS ?_
      go_simp
      refine rD 14 rfl (fun K hK=>?_)
      go_simp
      go_wp2_with ((go_at_call 61; refine (DH.alive n1 n2 HG.out HRN.out.wn).mono ?_; rintro e wn ⟨T2,ht2,rfl,hg⟩))
      have hal:=HAL.out T2 ht2
      rw [show decide ((Tm.chain T2 (n1,n2)).getLast?=some (0,0))=true from hal]
      replace HG:=Hi hg
      refine hK.out _ _ ⟨HG.out.at_ (by simp),HG.out.rd (by simp)⟩ (fun hS=>?_)
      clear hK K hg hal ht2
      refine tX 18 rfl hS ?_
      refine tX 19 rfl hS ?_
      go_simp
      refine wpAnyH_done (by kernel_rfl) ?_ _
      go_simp
      clear hS
      go_wp2
      go_meet
      case rel=>exact ⟨rfl,HG.out.less (fun e he=>by cases he) (fun e he=>by simp at he; simp [he])⟩
     ·obtain ⟨rfl,rfl⟩:=Prod.mk.inj ht
      clear ht
      have HAL:=Hi (show ∀ T2,TreeG (Gm.insAll D.2) T2→decide ((Tm.chain T2 (n1,n2)).getLast?=some (0,0))=false from fun T2 h2=>HLAST.out T2 h2 _ HLA.out (by decide))
      replace HG:=Hi (HG.out.kept (Below.drew (Below.refl wx.heap.size wx)))
      refine wp_region_held_drew (S:=fun W=>AgAt W be (stA (0,1))∧Rd W (some ⟨bm,om,none⟩) (stCells m)) (by kernel_rfl) ⟨HG.out.at_ (by simp),HG.out.rd (by simp)⟩ (fun hS=>?_)
      generalize wx.drew=wd at *
      refine tK 0 (v:=.agg #[.int .i64 0,.int .i64 1]) rfl (fun W hSW=>exec_load_ag stT rfl rfl rfl hSW.1) hS ?_
      go_simp
      refine tK 1 (v:=.agg #[.int .i64 0,.int .i64 0]) rfl (fun W hSW=>exec_build_zD rfl) hS ?_
      go_simp
      refine tK 2 (v:=.bool true) rfl (fun W hSW=>exec_neq_stH rfl (0,1) (0,0) rfl rfl (by decide)) hS ?_
      refine tX 3 rfl hS ?_
      go_simp
      refine tK 4 (v:=.agg #[.int .i64 0,.int .i64 1]) rfl (fun W hSW=>exec_load_ag stT rfl rfl rfl hSW.1) hS ?_
      go_simp
      refine tK 5 (v:=.agg #[.int .i64 0,.int .i64 1]) rfl (fun W hSW=>exec_build_tD rfl) hS ?_
      go_simp
      refine tK 6 (v:=.bool false) rfl (fun W hSW=>exec_neq_stH rfl (0,1) (0,1) rfl rfl (by decide)) hS ?_
      refine tX 7 rfl hS ?_
      refine tX 8 rfl hS ?_
      refine tX 9 rfl hS ?_
      go_simp
      refine tX 10 rfl hS ?_
      refine tX 11 rfl hS ?_
      refine tX 12 rfl hS ?_
      go_simp
      refine tK 13 (v:=.agg #[.int .i64 n1,.int .i64 n2]) rfl (fun W hSW=>exec_load_stH rfl rfl hSW.2 HN.out) hS ?_
      go_simp
      refine tK 15 (v:=.agg #[.int .i64 0,.int .i64 1]) rfl (fun W hSW=>exec_load_ag stT rfl rfl rfl hSW.1) hS ?_
      go_simp
      refine tK 16 (v:=.agg #[.int .i64 0,.int .i64 0]) rfl (fun W hSW=>exec_build_zD rfl) hS ?_
      go_simp
      refine tK 17 (v:=.bool false) rfl (fun W hSW=>exec_eql_stD rfl (0,1) (0,0) rfl rfl (by decide)) hS ?_
      go_simp
      refine rD 14 rfl (fun K hK=>?_)
      go_simp
      go_wp2_with ((go_at_call 61; refine (DH.alive n1 n2 HG.out HRN.out.wn).mono ?_; rintro e wn ⟨T2,ht2,rfl,hg⟩))
      have hal:=HAL.out T2 ht2
      rw [show decide ((Tm.chain T2 (n1,n2)).getLast?=some (0,0))=false from hal]
      replace HG:=Hi hg
      refine hK.out _ _ ⟨HG.out.at_ (by simp),HG.out.rd (by simp)⟩ (fun hS=>?_)
      clear hK K hg hal ht2
      refine tX 18 rfl hS ?_
      refine tX 19 rfl hS ?_
      go_simp
      refine wpAnyH_done (by kernel_rfl) ?_ _
      go_simp
      clear hS
      go_wp2
      go_meet
      case rel=>exact ⟨rfl,HG.out.less (fun e he=>by cases he) (fun e he=>by simp at he; simp [he])⟩
    case rest =>
     rename World=>wy
     obtain ⟨rfl,hg⟩:=hcut
     replace HG:=Hi hg
     clear hg HTT c1 c2 c3 c4 h0l hjl
     replace HG:=Hi (HG.out.less (bs':=[]) (rs':=[(some ⟨bm,om,none⟩,stCells m)]) (fun e he=>by cases he) (fun e he=>by simp at he; simp [he]))
     clear HLA HLAST
     go_wp2_with (refine wpList_value (by kernel_rfl) (exec_load_stH rfl rfl (HG.out.rd (p:=some ⟨bm,om,none⟩) (cs:=stCells m) (by simp)) HN.out) ?_)
     refine (DH.row n1 n2 HG.out HRN.out.wn).mono ?_
     rintro e wv ⟨po,co,mo,V,rfl,hv,⟨hmo,-⟩,hg⟩
     have HTS:=Hi (show totR T m (k+1)=totR T m k+mo.length from by rw [totR_step HN.out,HT.out.rowLen hv hmo])
     have hts:=HTS.out
     have htl:=totR_le HT.out HM.out (k+1)
     have hw1:IntKind.i64.wrap (((totR T m k:Nat):Int)+(mo.length:Int))=((totR T m (k+1):Nat):Int):=by rw [wraps_i64 _ (by omega) (by omega)]; omega
     replace HG:=Hi (hg.less (bs':=[]) (rs':=[(some ⟨bm,om,none⟩,stCells m)]) (fun e he=>by cases he) (fun e he=>by simp at he; simp [he]))
     clear hg hmo hv hts htl HTS HRN HN
     have HTK:=Hi (show totR T m (k+1)=totR T m (k+1) from rfl)
     generalize mo.length=no at *
     go_wp2
     go_roundw
     case rel=>exact ⟨k+1,by omega,rfl,by go_num,HG.out⟩
     case measure=>simp [intOf]; omega
   ·obtain rfl:k=m.length:=by omega
    have d0:decide ((m.length:Int)<(m.length:Int))=false:=decide_eq_false (by omega)
    have d1:(((m.length:Nat):Int) == (m.length:Int))=true:=by simp
    rw [totR_all HT.out HM.out]
    have HE:=Hi (HB.out.trans (HG.out.bel.mono HB.out.size))
    clear HG HT HM HGOOD HB hlt hk
    generalize m.length=n at *
    go_wp2
    go_ret
    exact ⟨rfl,HE.out⟩
end Go.Proofs.YthfhefdfehlbkaaGreat

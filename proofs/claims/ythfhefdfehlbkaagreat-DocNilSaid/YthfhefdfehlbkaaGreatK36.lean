/-
  THE LAW's Light: are batches few and small?
  No conditions.
  THE LAW's Light: are batches few and small, all together?
  No conditions.
-/
import Derived.Test.YthfhefdfehlbkaaGreatSh
import Derived.Test.YthfhefdfehlbkaaGreatK10
import Derived.Test.YthfhefdfehlbkaaGreatK06
import Derived.Test.YthfhefdfehlbkaaGreatK27
set_option maxRecDepth 100000
set_option maxHeartbeats 8000000
namespace Go.Proofs.YthfhefdfehlbkaaGreat
open Go.RowKit
def light1 (x:Bat):Bool:=lightT x && decide (x.ops.length≤20)
def light9 (l:List Be):Bool:=(l.all fun e=>light1 e.x) && decide (l.length≤80)
theorem light9_no {l:List Be} {k:Nat} (hk:k<l.length) (h:light1 (beOf l k).x=false):light9 l=false:=by
 unfold light9
 rw [Bool.and_eq_false_iff]
 refine Or.inl ?_
 rw [List.all_eq_false]
 exact ⟨_,beOf_mem hk,by rw [h]; simp⟩
theorem light9_end {l:List Be} {k:Nat} (hk:k=l.length∨k=90) (hl:k≤l.length) (h:∀ j,j<k→light1 (beOf l j).x=true):light9 l=decide (l.length≤80):=by
 unfold light9
 by_cases h80:l.length≤80
 ·obtain rfl:k=l.length:=by omega
  have:(l.all fun e=>light1 e.x)=true:=List.all_eq_true.2 fun e he=>by
   obtain ⟨j,hj,rfl⟩:=List.mem_iff_getElem.1 he
   have:=h j hj
   rwa [show beOf l j=l[j] from by simp [beOf,hj]] at this
  rw [this,Bool.true_and]
 ·rw [decide_eq_false h80,Bool.and_false]
theorem light9_mem {l:List Be} (h:light9 l=true) {e:Be} (he:e ∈ l):lightT e.x=true∧e.x.ops.length≤20:=by
 simp only [light9,light1,Bool.and_eq_true,decide_eq_true_eq,List.all_eq_true] at h
 exact h.1 e he
theorem light9_any (p:Option Addr) (c:Nat) (l:List Be) (w:World) (h:Rd w p (beCells l)) (ho:∀ e,e ∈ l→Bops w e.x e.p e.c) :
  Calls Tryz.prog 112 #[.slice p l.length c] w fun e w'=>e=.returned (.bool (light9 l))∧Below w.heap.size w w':=by
 have HR:=Hi (fun W (hW:Below w.heap.size w W)=>h.below hW)
 have HLI:=Hi (fun (k:Nat) (hk:k<l.length) W (hW:Below w.heap.size w W)=>light_any (beOf l k).x (beOf l k).p (beOf l k).c W ((ho _ (beOf_mem hk)).kept hW))
 clear h ho
 go_enter Tryz.func112,Tryz.ntmps112
 go_wp2
 go_loopw [3] (fun i wr=>∃ k:Nat,k≤l.length∧k≤90∧i=.int .i64 (k:Int)∧(∀ j,j<k→light1 (beOf l j).x=true)∧Below w.heap.size w wr) (fun i _=>l.length - (intOf i).toNat)
 case atStart=>exact ⟨0,Nat.zero_le _,by omega,rfl,fun j hj=>by omega,Below.refl _ _⟩
 case round =>
  obtain ⟨k,hk,hk9,rfl,hgood,hbw⟩:=hrel
  have HG:=Hi hgood
  have HB:=Hi hbw
  clear hgood hbw
  by_cases hlt:k<l.length
  ·have hd0:decide ((k:Int)<(l.length:Int))=true:=decide_eq_true (by omega)
   by_cases h90:k<90
   ·have hd1:decide ((k:Int)<90)=true:=decide_eq_true (by omega)
    have HRD:=Hi (HR.out _ HB.out)
    obtain ⟨b,o,rfl,-⟩:=HRD.out.addr (by rw [beCells_length]; omega)
    have HC:=Hi (HLI.out k hlt wr HB.out)
    have HN:=Hi (fun (h:light1 (beOf l k).x=false)=>light9_no hlt h)
    have HGK:=Hi (fun (h:light1 (beOf l k).x=true)=>(fun j hj=>by
     by_cases e:j=k
     ·rw [e]; exact h
     ·exact HG.out j (by omega):∀ j,j<k+1→light1 (beOf l j).x=true))
    go_wp2_with (refine wpList_load_be btR rfl _ rfl b o k rfl l HRD.out hlt ?_)
    refine HC.out.mono ?_
    rintro e w2 ⟨rfl,hb2⟩
    have hrd2:=(HRD.out.below hb2).be k hlt
    have HB2:=Hi (HB.out.trans (hb2.mono HB.out.size))
    have y3:=hrd2 3 _ rfl
    clear hb2 hrd2
    cases hl:lightT (beOf l k).x with
    | false =>
     have HE:=Hi (HN.out (by unfold light1; rw [hl]; rfl))
     clear hl
     go_wp2
     go_ret
     exact ⟨by rw [HE.out]; rfl,HB2.out⟩
    | true =>
     by_cases h20:(beOf l k).x.ops.length≤20
     ·have hd2:decide (20<((beOf l k).x.ops.length:Int))=false:=decide_eq_false (by omega)
      have HGN:=Hi (HGK.out (by unfold light1; rw [hl,decide_eq_true h20]; rfl))
      clear hl h20
      go_wp2
      go_roundw
      case rel=>exact ⟨k+1,by omega,by omega,by go_num,HGN.out,HB2.out⟩
      case measure=>simp [intOf]; omega
     ·have hd2:decide (20<((beOf l k).x.ops.length:Int))=true:=decide_eq_true (by omega)
      have HE:=Hi (HN.out (by unfold light1; rw [hl,decide_eq_false h20]; rfl))
      clear hl h20
      go_wp2
      go_ret
      exact ⟨by rw [HE.out]; rfl,HB2.out⟩
   ·have hd1:decide ((k:Int)<90)=false:=decide_eq_false (by omega)
    have HE:=Hi (light9_end (Or.inr (by omega)) hk HG.out)
    go_wp2
    go_ret
    exact ⟨by rw [HE.out,← show decide ((l.length:Int)≤80)=decide (l.length≤80) from decide_eq_decide.2 (by omega)]; rfl,HB.out⟩
  ·obtain rfl:k=l.length:=by omega
   have hd0:decide ((l.length:Int)<(l.length:Int))=false:=decide_eq_false (by omega)
   have HE:=Hi (light9_end (Or.inl rfl) (Nat.le_refl _) HG.out)
   go_wp2
   go_ret
   exact ⟨by rw [HE.out,← show decide ((l.length:Int)≤80)=decide (l.length≤80) from decide_eq_decide.2 (by omega)]; rfl,HB.out⟩
open Go.RowKit
structure Few (l:List Be):Prop where
 len:l.length≤30
 wt:wtB (l.map (·.x))≤70
 light:light9 l=true
theorem Few.mem {l:List Be} (h:Few l) {e:Be} (he:e ∈ l):lightT e.x=true:=(light9_mem h.light he).1
theorem wtB_snoc {l:List Be} {k:Nat} (hk:k<l.length):wtB ((l.take (k+1)).map (·.x))=wtB ((l.take k).map (·.x))+(beOf l k).x.ops.length:=by
 rw [List.take_succ_eq_append_getElem hk,List.map_append,wtB_append]
 simp [beOf,hk,wtB]
theorem light14_any (p:Option Addr) (c:Nat) (l:List Be) (w:World) (h:Rd w p (beCells l)) (ho:∀ e,e ∈ l→Bops w e.x e.p e.c) :
  Calls Tryz.prog 29 #[.slice p l.length c] w fun e w'=>∃ b,e=.returned (.bool b)∧(b=true→Few l)∧Below w.heap.size w w':=by
 have HR:=Hi (fun W (hW:Below w.heap.size w W)=>h.below hW)
 have HLI:=Hi (fun (k:Nat) (hk:k<l.length) W (hW:Below w.heap.size w W)=>light_any (beOf l k).x (beOf l k).p (beOf l k).c W ((ho _ (beOf_mem hk)).kept hW))
 have HL9:=Hi (fun W (hW:Below w.heap.size w W)=>light9_any p c l W (h.below hW) fun e he=>(ho e he).kept hW)
 clear h ho
 go_enter Tryz.func29,Tryz.ntmps29
 go_wp2
 go_loopw [3,4] (fun n i wr=>∃ k m:Nat,k≤l.length∧k≤40∧n=.int .i64 (m:Int)∧i=.int .i64 (k:Int)∧(m=wtB ((l.take k).map (·.x))∧m≤70 * k)∧Below w.heap.size w wr) (fun _ i _=>l.length - (intOf i).toNat)
 case atStart=>exact ⟨0,0,Nat.zero_le _,by omega,rfl,rfl,⟨rfl,by omega⟩,Below.refl _ _⟩
 case round =>
  obtain ⟨k,m,hk,hk9,rfl,rfl,⟨hm,hm2⟩,hbw⟩:=hrel
  have HM:=Hi hm
  have HB:=Hi hbw
  clear hm hbw
  have hout:l.length=k∨k=40∧40<l.length∨k<l.length∧k<40:=by omega
  by_cases hlt:k<l.length
  ·have hd0:decide ((k:Int)<(l.length:Int))=true:=decide_eq_true (by omega)
   by_cases h40:k<40
   ·have hd1:decide ((k:Int)<40)=true:=decide_eq_true (by omega)
    have HRD:=Hi (HR.out _ HB.out)
    obtain ⟨b,o,rfl,-⟩:=HRD.out.addr (by rw [beCells_length]; omega)
    have HC:=Hi (HLI.out k hlt wr HB.out)
    go_wp2_with (refine wpList_load_be btR rfl _ rfl b o k rfl l HRD.out hlt ?_)
    refine HC.out.mono ?_
    rintro e w2 ⟨rfl,hb2⟩
    have hrd2:=(HRD.out.below hb2).be k hlt
    have HB2:=Hi (HB.out.trans (hb2.mono HB.out.size))
    have y3:=hrd2 3 _ rfl
    clear hb2 hrd2 hout
    cases hl:lightT (beOf l k).x with
    | false =>
     clear hl
     go_wp2
     go_ret
     exact ⟨false,rfl,(fun h=>by cases h),HB2.out⟩
    | true =>
     have hln:=light_len hl
     have HS:=Hi (wtB_snoc hlt)
     have hw1:IntKind.i64.wrap ((m:Int)+((beOf l k).x.ops.length:Int))=((m+(beOf l k).x.ops.length:Nat):Int):=by rw [wraps_i64 _ (by omega) (by omega)]; omega
     clear hl
     generalize (beOf l k).x.ops.length=nn at *
     go_wp2
     go_roundw
     case rel=>exact ⟨k+1,m+nn,by omega,by omega,rfl,by go_num,⟨by rw [HS.out,← HM.out],by omega⟩,HB2.out⟩
     case measure=>simp [intOf]; omega
   ·have hd1:decide ((k:Int)<40)=false:=decide_eq_false (by omega)
    have d30:decide ((l.length:Int)≤30)=false:=decide_eq_false (by omega)
    clear hout
    go_wp2
    go_ret
    exact ⟨false,rfl,(fun h=>by cases h),HB.out⟩
  ·have hd0:decide ((k:Int)<(l.length:Int))=false:=decide_eq_false (by omega)
   have HK:=Hi (show k=l.length from by omega)
   clear hout
   by_cases h30:l.length≤30
   ·have d30:decide ((l.length:Int)≤30)=true:=decide_eq_true (by omega)
    by_cases h70:m≤70
    ·have d70:decide ((m:Int)≤70)=true:=decide_eq_true (by omega)
     have HC:=Hi (HL9.out wr HB.out)
     go_wp2_with fail
     refine HC.out.mono ?_
     rintro e w2 ⟨rfl,hb2⟩
     have HE:=Hi (show light9 l=true→Few l from fun h9=>⟨h30,by rw [HM.out,HK.out,List.take_length] at h70; exact h70,h9⟩)
     have HB2:=Hi (HB.out.trans (hb2.mono HB.out.size))
     clear hb2 HC HL9 HLI HR
     generalize light9 l=b9 at *
     go_wp2
     go_ret
     exact ⟨b9,rfl,HE.out,HB2.out⟩
    ·have d70:decide ((m:Int)≤70)=false:=decide_eq_false (by omega)
     go_wp2
     go_ret
     exact ⟨false,rfl,(fun h=>by cases h),HB.out⟩
   ·have d30:decide ((l.length:Int)≤30)=false:=decide_eq_false (by omega)
    go_wp2
    go_ret
    exact ⟨false,rfl,(fun h=>by cases h),HB.out⟩
end Go.Proofs.YthfhefdfehlbkaaGreat

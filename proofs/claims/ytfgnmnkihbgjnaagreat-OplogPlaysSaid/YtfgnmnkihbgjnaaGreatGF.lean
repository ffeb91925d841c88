/-
  WHAT AN OP THAT MAY BE IS, kind by kind; it is read as it was written, and what is read was written so.
  No conditions.
  AN OP IS READ AS IT WAS WRITTEN; what is read was written so.
  No conditions.
  PUT's function value: bytes are put behind those that there are.
  No conditions but sizes.
-/
import Derived.Test.YtfgnmnkihbgjnaaGreatSh
import Derived.Test.YtfgnmnkihbgjnaaGreatGD
import Derived.Test.YtfgnmnkihbgjnaaGreatHC
set_option maxRecDepth 100000
set_option maxHeartbeats 1000000
namespace Go.Proofs.YtfgnmnkihbgjnaaGreat
open Go.RowKit
theorem okNode_right {t r:Int} (h:okNode t r=true):rightB t r=true:=by
 unfold okNode at h
 simp only [Bool.and_eq_true] at h
 exact h.1
theorem isZ_iff {t r:Int}:isZ t r=true↔t=0∧r=0:=by simp [isZ]
theorem isT_iff {t r:Int}:isT t r=true↔t=0∧r=1:=by simp [isT]
theorem isV_iff {k n:Int} {t:ByteArray}:isV k n t=true↔k=0∧n=0∧t=⟨#[]⟩:=by simp [isV,and_assoc]
theorem isZ_right {t r:Int} (h:isZ t r=true):rightB t r=true:=by
 obtain ⟨rfl,rfl⟩:=isZ_iff.1 h
 rfl
theorem okPlace_right {t r:Int} (h:okPlace t r=true):rightB t r=true:=by
 unfold okPlace at h
 simp only [Bool.or_eq_true] at h
 rcases h with (h | h) | h
 ·exact okNode_right h
 ·exact isZ_right h
 ·obtain ⟨rfl,rfl⟩:=isT_iff.1 h
  rfl
theorem key_small {k:ByteArray} (h:Km.rightB k.data.toList=true):k.size≤24:=(right_size.1 h).2.1
theorem okPath_small {l:List Qm.St} (h:okPath l=true):1≤l.length∧l.length≤8∧∀ s,s ∈ l→rightB s.1 s.2=true:=by
 unfold okPath at h
 simp only [Bool.and_eq_true,decide_eq_true_eq,List.all_eq_true] at h
 exact ⟨h.1.1,h.1.2,fun s hs=>okNode_right (h.2 s hs)⟩
theorem right8_facts {p k n:Int} {t:List UInt8} (h:right8V p k n t=true):1≤p∧p≤8∧Vm.rightV k n t=true:=by
 unfold right8V at h
 simp only [Bool.and_eq_true,decide_eq_true_eq] at h
 exact ⟨h.1.1,h.1.2,h.2.1⟩
theorem rightO_parts {x:Opp} (h:rightO x=true):fitO (prt x.k) x=true∧aloneO (prt x.k) x=true:=by
 unfold rightO at h
 simp only [Bool.and_eq_true] at h
 exact ⟨h.1.2,h.2⟩
theorem right1 {x:Opp} (h:rightO x=true) (hk:x.k=1):rightB x.rt x.rr=true∧Km.rightB x.key.data.toList=true∧x={ Opp.zero with k:=1,rt:=x.rt,rr:=x.rr,key:=x.key }:=by
 obtain ⟨hf,ha⟩:=rightO_parts h
 rw [hk] at hf ha
 simp [prt,fitO] at hf
 simp [prt,aloneO,isZ_iff,isV_iff] at ha
 refine ⟨okPlace_right hf.1,hf.2,?_⟩
 obtain ⟨k,nt,nr,rt,rr,key,path,p,vk,vn,vt,on⟩:=x
 simp_all [Opp.zero]
theorem right2 {x:Opp} (h:rightO x=true) (hk:x.k=2):rightB x.nt x.nr=true∧rightB x.rt x.rr=true∧Km.rightB x.key.data.toList=true∧x={ Opp.zero with k:=2,nt:=x.nt,nr:=x.nr,rt:=x.rt,rr:=x.rr,key:=x.key }:=by
 obtain ⟨hf,ha⟩:=rightO_parts h
 rw [hk] at hf ha
 simp [prt,fitO] at hf
 simp [prt,aloneO,isV_iff] at ha
 refine ⟨okNode_right hf.1,okPlace_right hf.2.1,hf.2.2,?_⟩
 obtain ⟨k,nt,nr,rt,rr,key,path,p,vk,vn,vt,on⟩:=x
 simp_all [Opp.zero]
theorem right3 {x:Opp} (h:rightO x=true) (hk:x.k=3):rightB x.nt x.nr=true∧right8V x.p x.vk x.vn x.vt.data.toList=true∧x={ Opp.zero with k:=3,nt:=x.nt,nr:=x.nr,p:=x.p,vk:=x.vk,vn:=x.vn,vt:=x.vt }:=by
 obtain ⟨hf,ha⟩:=rightO_parts h
 rw [hk] at hf ha
 simp [prt,fitO] at hf
 simp [prt,aloneO,isZ_iff] at ha
 refine ⟨okNode_right hf.1,hf.2,?_⟩
 obtain ⟨k,nt,nr,rt,rr,key,path,p,vk,vn,vt,on⟩:=x
 simp_all [Opp.zero]
theorem right4 {x:Opp} (h:rightO x=true) (hk:x.k=4):rightB x.nt x.nr=true∧x={ Opp.zero with k:=4,nt:=x.nt,nr:=x.nr,on:=x.on }:=by
 obtain ⟨hf,ha⟩:=rightO_parts h
 rw [hk] at hf ha
 simp [prt,fitO] at hf
 simp [prt,aloneO,isZ_iff,isV_iff] at ha
 refine ⟨okNode_right hf,?_⟩
 obtain ⟨k,nt,nr,rt,rr,key,path,p,vk,vn,vt,on⟩:=x
 simp_all [Opp.zero]
theorem right5 {x:Opp} (h:rightO x=true) (hk:x.k=5):rightB x.nt x.nr=true∧rightB x.rt x.rr=true∧x={ Opp.zero with k:=5,nt:=x.nt,nr:=x.nr,rt:=x.rt,rr:=x.rr }:=by
 obtain ⟨hf,ha⟩:=rightO_parts h
 rw [hk] at hf ha
 simp [prt,fitO] at hf
 simp [prt,aloneO,isV_iff] at ha
 refine ⟨okNode_right hf.1,hf.2.elim okNode_right isZ_right,?_⟩
 obtain ⟨k,nt,nr,rt,rr,key,path,p,vk,vn,vt,on⟩:=x
 simp_all [Opp.zero]
theorem right6 {x:Opp} (h:rightO x=true) (hk:x.k=6):rightB x.nt x.nr=true∧okPath x.path=true∧right8V x.p x.vk x.vn x.vt.data.toList=true∧x={ Opp.zero with k:=6,nt:=x.nt,nr:=x.nr,path:=x.path,p:=x.p,vk:=x.vk,vn:=x.vn,vt:=x.vt }:=by
 obtain ⟨hf,ha⟩:=rightO_parts h
 rw [hk] at hf ha
 simp [prt,fitO] at hf
 simp [prt,aloneO,isZ_iff] at ha
 refine ⟨okNode_right hf.1.1,hf.1.2,hf.2,?_⟩
 obtain ⟨k,nt,nr,rt,rr,key,path,p,vk,vn,vt,on⟩:=x
 simp_all [Opp.zero]
open Go.RowKit
open Go.RowKit
structure Out (w:World) (B o:Nat) (l:List UInt8):Prop where
 lt:o<B
 size:B≤w.heap.size
 free:w.frozen? ⟨o,0,none⟩=false
 row:∃ v,w.cell? ⟨o,0,none⟩=some v∧Own 5 w B v l
structure Chg (o B:Nat) (w w':World):Prop where
 os:w'.os=w.os
 tape:w'.tape=w.tape
 output:w'.output=w.output
 size:w.heap.size≤w'.heap.size
 block:∀ k,k<B→k≠o→w'.heap[k]?=w.heap[k]?
theorem Out.kept {w w':World} {B o:Nat} {l:List UInt8} (h:Out w B o l) (hb:Below w.heap.size w w'):Out w' B o l:=by
 obtain ⟨h1,h2,h3,v,h4,h5⟩:=h
 exact ⟨h1,Nat.le_trans h2 hb.size,by rw [hb.frozen (by simp; omega)]; exact h3,v,by rw [hb.cell (by simp; omega)]; exact h4,h5.below hb⟩
theorem only_set' (b o:Nat) (w:World) (v:Value):w.grownBy (w.setCell ⟨b,o,none⟩ v) (some b) :=
 ⟨rfl,rfl,rfl,by simp [World.setCell],fun k _ hk=>Below.heap_setCell w _ v k (fun e=>hk (by rw [e]))⟩
theorem Own.setFar {w:World} {B o:Nat} {v:Value} {l:List UInt8} (h:Own 5 w B v l) (ho:o<B) (u:Value):Own 5 (w.setCell ⟨o,0,none⟩ u) B v l :=
 World.ownsRow.kept (row:=some o) h (only_set' o 0 w u) (by
  cases hv:v.ownBlock with
  | none=>simp
  | some g=>have:=(World.ownsRow.lt h g hv).1; simp; omega)
theorem add_any (B o:Nat) (l m:List UInt8) (p:Option Addr) (c:Nat) (e:Int) (w:World) (h:Out w B o l) (hm:Bs w p m) (hpn:p=none→c=0) (hl:l.length+m.length≤100000) :
  Calls Tryz.prog 95 #[.slice p m.length c,.int .i64 e,.pointer (some ⟨o,0,none⟩)] w fun r w'=>r=.returned (.tuple #[])∧Out w' B o (l ++ m)∧Chg o B w w':=by
 obtain ⟨i0,hi,hz0,hz1,hz2⟩:=info_parts info_u8
 obtain ⟨h1,h2,h3,v,h4,h5⟩:=h
 have HO:=Hi h5
 have HBS:=Hi hm
 obtain ⟨p1,c1,rfl,-⟩:=h5.bs
 clear h5 hm
 go_enter Tryz.func95,Tryz.ntmps95
 go_wp2_with (at_builtin; refine wpList_append_bs rfl _ _ 103 rfl B 5 i0 Tryz.underlying103 hi hz0 hz1 hz2 _ l rfl HO.out p c m rfl HBS.out hpn ?b0 ?b1 ?_)
 case b0=>omega
 case b1=>exact h2
 intro v4 w4 hown4 hbel4 hgrow4 hnil4
 clear hgrow4 hnil4
 obtain ⟨p4,c4,rfl,-⟩:=hown4.bs
 have k4:w4.cell? ⟨o,0,none⟩=some (.slice p1 l.length c1):=by rw [hbel4.cell (by simpa using h1)]; exact h4
 have kf:w4.frozen? ⟨o,0,none⟩=false:=by rw [hbel4.frozen (by simpa using h1)]; exact h3
 have HO4:=Hi (hown4.setFar h1 (.slice p4 (l ++ m).length c4))
 have HK4:=Hi (cell_same (v:=.slice p4 (l ++ m).length c4) k4)
 have HF4:=Hi (show (w4.setCell ⟨o,0,none⟩ (.slice p4 (l ++ m).length c4)).frozen? ⟨o,0,none⟩=false by rw [World.frozen?_setCell]; exact kf)
 have HC:=Hi (show Chg o B w (w4.setCell ⟨o,0,none⟩ (.slice p4 (l ++ m).length c4)) from
  ⟨hbel4.os,hbel4.tape,hbel4.output,by have:=hbel4.size; simpa using this,fun k hk hn=>((only_set' o 0 w4 _).block k (by have:=hbel4.size; omega) (by simpa using fun e=>hn e)).trans (hbel4.block k hk)⟩)
 have HS:=Hi (show B≤(w4.setCell ⟨o,0,none⟩ (.slice p4 (l ++ m).length c4)).heap.size by have:=hbel4.size; simp; omega)
 clear hown4 hbel4
 have HL:=Hi (show (l ++ m).length=l.length+m.length from List.length_append)
 generalize (l ++ m).length=n at *
 go_wp2
 go_end0
 exact ⟨rfl,⟨h1,HS.out,HF4.out,_,HK4.out,HO4.out⟩,HC.out⟩
end Go.Proofs.YtfgnmnkihbgjnaaGreat

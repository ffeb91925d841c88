/-
  PUT: a batch is written; Frame.
  No conditions but sizes.
-/
import Derived.Test.YtfgnmnkihbgjnaaGreatSh
import Derived.Test.YtfgnmnkihbgjnaaGreatGG
import Derived.Test.YtfgnmnkihbgjnaaGreatOPut
import Derived.Test.YtfgnmnkihbgjnaaGreatGK
set_option maxRecDepth 100000
set_option maxHeartbeats 8000000
namespace Go.Proofs.YtfgnmnkihbgjnaaGreat
open Go.RowKit
theorem badd_any (B o:Nat) (l m:List UInt8) (p:Option Addr) (c:Nat) (e:Int) (w:World) (h:Out w B o l) (hm:Bs w p m) (hpn:p=none→c=0) (hl:l.length+m.length≤100000) :
  Calls Tryz.prog 72 #[.slice p m.length c,.int .i64 e,.pointer (some ⟨o,0,none⟩)] w fun r w'=>r=.returned (.tuple #[])∧Out w' B o (l ++ m)∧Chg o B w w':=by
 obtain ⟨i0,hi,hz0,hz1,hz2⟩:=info_parts info_u8
 obtain ⟨h1,h2,h3,v,h4,h5⟩:=h
 have HO:=Hi h5
 have HBS:=Hi hm
 obtain ⟨p1,c1,rfl,-⟩:=h5.bs
 clear h5 hm
 go_enter Tryz.func72,Tryz.ntmps72
 go_wp2_with (at_builtin; refine wpList_append_bs rfl _ _ 103 rfl B 5 i0 Tryz.underlying103 hi hz0 hz1 hz2 _ l rfl HO.out p c m rfl HBS.out hpn ?b0 ?b1 ?_)
 case b0=>omega
 case b1=>exact h2
 intro v4 w4 hown4 hbel4 hgrow4 hnil4
 clear hgrow4 hnil4
 obtain ⟨p4,c4,rfl,-⟩:=hown4.bs
 have k4:w4.cell? ⟨o,0,none⟩=some (.slice p1 l.length c1):=by rw [hbel4.cell (by simpa using h1)]; exact h4
 have kf:w4.frozen? ⟨o,0,none⟩=false:=by rw [hbel4.frozen (by simpa using h1)]; exact h3
 have HO4:=Hi (hown4.setFar h1 (.slice p4 (l ++ m).length c4))
 have HK4:=Hi (cell_same (v:=.slice p4 (l ++ m).length c4) k4)
 have HF4:=Hi (show (w4.setCell ⟨o,0,none⟩ (.slice p4 (l ++ m).length c4)).frozen? ⟨o,0,none⟩=false by rw [World.frozen?_setCell]; exact kf)
 have HC:=Hi (show Chg o B w (w4.setCell ⟨o,0,none⟩ (.slice p4 (l ++ m).length c4)) from
  ⟨hbel4.os,hbel4.tape,hbel4.output,by have:=hbel4.size; simpa using this,fun k hk hn=>((only_set' o 0 w4 _).block k (by have:=hbel4.size; omega) (by simpa using fun e=>hn e)).trans (hbel4.block k hk)⟩)
 have HS:=Hi (show B≤(w4.setCell ⟨o,0,none⟩ (.slice p4 (l ++ m).length c4)).heap.size by have:=hbel4.size; simp; omega)
 clear hown4 hbel4
 have HL:=Hi (show (l ++ m).length=l.length+m.length from List.length_append)
 generalize (l ++ m).length=n at *
 go_wp2
 go_end0
 exact ⟨rfl,⟨h1,HS.out,HF4.out,_,HK4.out,HO4.out⟩,HC.out⟩
structure PtB (w0:World) (X o B:Nat) (x:Bat) (p:Option Addr) (c:Nat) (l:List UInt8) (w:World):Prop where
 hX:w0.heap.size≤X
 hXo:X<o
 hoB:o<B
 bt:BtAt w X x p c
 below:Below w0.heap.size w0 w
 out:Out w B o l
theorem PtB.kept {w0 w w':World} {X o B:Nat} {x:Bat} {p:Option Addr} {c:Nat} {l:List UInt8} (h:PtB w0 X o B x p c l w) (hb:Below w.heap.size w w'):PtB w0 X o B x p c l w' :=
 {h with bt:=AgAt.kept h.bt hb,below:=h.below.trans (hb.mono h.below.size),out:=h.out.kept hb }
theorem PtB.add {w0 w w':World} {X o B:Nat} {x:Bat} {p:Option Addr} {c:Nat} {l m:List UInt8} (h:PtB w0 X o B x p c l w) (ho:Out w' B o m) (hc:Chg o B w w'):PtB w0 X o B x p c m w':=by
 have h1:=h.hX; have h2:=h.hXo; have h3:=h.hoB
 exact ⟨h1,h2,h3,AgAt.block h.bt (hc.block X (by omega) (by omega)),h.below.trans ⟨hc.os,hc.tape,hc.output,hc.size,fun k hk=>hc.block k (by omega) (by omega)⟩,ho⟩
theorem opsB_len:∀ {l:List Opp},(∀ x,x ∈ l→rightO x=true)→(opsB l).length≤1000 * l.length
 | [],_=>by simp [opsB]
 | x :: l,h=>by
  have e:opsB (x :: l)=opB x ++ opsB l:=by simp [opsB]
  have h1:=opB_len (h x List.mem_cons_self)
  have h2:=opsB_len (l:=l) fun y hy=>h y (List.mem_cons_of_mem _ hy)
  rw [e,List.length_append,List.length_cons]; omega
theorem opsB_take {l:List Opp} {k:Nat} (h:k<l.length):opsB (l.take (k+1))=opsB (l.take k) ++ opB (opOf l k):=by
 rw [take_succ_op l k h,opsB_append,opsB_one]
def headB (x:Bat) (k:Nat):List UInt8 :=
 if k=0 then [] else if k=1 then Wm.numB x.r.toNat else if k=2 then Wm.numB x.r.toNat ++ Wm.numB x.s.toNat
 else if k=3 then Wm.numB x.r.toNat ++ Wm.numB x.s.toNat ++ Wm.numB x.t.toNat else Wm.numB x.r.toNat ++ Wm.numB x.s.toNat ++ Wm.numB x.t.toNat ++ Wm.numB x.ops.length
theorem headB_len (x:Bat) (k:Nat):(headB x k).length≤28:=by
 have h1:=numB_small x.r.toNat
 have h2:=numB_small x.s.toNat
 have h3:=numB_small x.t.toNat
 have h4:=numB_small x.ops.length
 unfold headB
 repeat' split
 all_goals first | (simp only [List.length_nil]; omega) | (simp only [List.length_append]; omega) | omega
theorem batB_head (x:Bat):headB x 4 ++ opsB x.ops=batB x:=by
 unfold headB batB
 rw [if_neg (by omega),if_neg (by omega),if_neg (by omega),if_neg (by omega)]
 simp only [List.append_assoc]
theorem batB_len {x:Bat} (h:rightT x=true):(batB x).length≤65000:=by
 obtain ⟨-,-,h3,-,h5⟩:=rightT_iff.1 h
 have h1:=headB_len x 4
 have h2:=opsB_len h5
 rw [← batB_head,List.length_append]; omega
theorem idx4_0 (a b c d:Int) (w:World):(Instr.index 128 (.agg #[.int .i64 a,.int .i64 b,.int .i64 c,.int .i64 d]) (.int .i64 0)).run Tryz.prog w=.ok (.int .i64 a) w:=by kernel_rfl
theorem idx4_1 (a b c d:Int) (w:World):(Instr.index 128 (.agg #[.int .i64 a,.int .i64 b,.int .i64 c,.int .i64 d]) (.int .i64 1)).run Tryz.prog w=.ok (.int .i64 b) w:=by kernel_rfl
theorem idx4_2 (a b c d:Int) (w:World):(Instr.index 128 (.agg #[.int .i64 a,.int .i64 b,.int .i64 c,.int .i64 d]) (.int .i64 2)).run Tryz.prog w=.ok (.int .i64 c) w:=by kernel_rfl
theorem idx4_3 (a b c d:Int) (w:World):(Instr.index 128 (.agg #[.int .i64 a,.int .i64 b,.int .i64 c,.int .i64 d]) (.int .i64 3)).run Tryz.prog w=.ok (.int .i64 d) w:=by kernel_rfl
theorem bput_any (x:Bat) (p:Option Addr) (c:Nat) (w:World) (hs:Szs x.ops) (h:Bops w x p c):Calls Tryz.prog 54 #[.agg (btA x p c)] w (Wrote 5 w (putT x)):=by
 have HX:=Hi (AgAt.new w (btA x p c) 39)
 have HB:=Hi ((Below.refl w.heap.size w).alloc (Nat.le_refl _) (.cells (btA x p c) 39))
 have HRI:=Hi (fun W (hw:Below w.heap.size w W)=>bright_any x p c W hs (h.kept hw))
 have HSZ:=Hi hs
 cases hr:rightT x with
 | false =>
  have HP:=Hi (putT_err hr)
  rw [hr] at HRI
  have hx:=HX.out
  clear h hs hr
  go_enter Tryz.func54,Tryz.ntmps54
  go_wp2_with (refine wpList_load_ag btP (by kernel_rfl) _ rfl _ rfl (A:=btA x p c) rfl (by assumption) ?_)
  refine (HRI.out _ HB.out).mono ?_
  rintro e w1 ⟨rfl,hb1⟩
  have HB2:=Hi (HB.out.trans (hb1.mono HB.out.size))
  clear hb1 hx
  go_wp2
  go_ret2
  rw [HP.out]
  exact ⟨_,rfl,Own.nil _ _ _,HB2.out⟩
 | true =>
  have HP:=Hi (putT_ok hr)
  have HF:=Hi (rightT_iff.1 hr)
  rw [hr] at HRI
  obtain ⟨l,h⟩:=h
  have HOS:=Hi (fun W (hw:Below w.heap.size w W)=>h.kept hw)
  obtain ⟨b,o,rfl,hb⟩:=h.rd.addr (by rw [enCells_length,h.len]; have:=HF.out.2.2.1; omega)
  have hx:=HX.out
  clear h hs hr
  go_enter Tryz.func54,Tryz.ntmps54
  go_wp2_with (refine wpList_load_ag btP (by kernel_rfl) _ rfl _ rfl (A:=btA x _ c) rfl (by assumption) ?_)
  refine (HRI.out _ HB.out).mono ?_
  rintro e w1 ⟨rfl,hb1⟩
  have T:=Hi (show PtB w w.heap.size w1.heap.size (w1.heap.size+1) x (some ⟨b,o,none⟩) c (headB x 0) (w1.alloc (.cells #[.slice none 0 0] 103)) from by
   have hb2:=(Below.refl w1.heap.size w1).alloc (Nat.le_refl _) (.cells #[.slice none 0 0] 103)
   have hlt:w.heap.size<w1.heap.size:=by have:=hb1.size; simp at this; omega
   have hbw:=HB.out.trans (hb1.mono HB.out.size)
   exact ⟨Nat.le_refl _,hlt,Nat.lt_succ_self _,AgAt.kept (AgAt.kept HX.out hb1) hb2,hbw.trans (hb2.mono hbw.size),
    ⟨Nat.lt_succ_self _,by simp,World.frozen?_alloc_at _ _ _ _ rfl,.slice none 0 0,by rw [World.cell?_alloc_at _ _ _ _ rfl]; rfl,Own.nil _ _ _⟩⟩)
  clear hb1 hx HX HB HRI
  obtain ⟨x0,x1,x2,x3⟩:=BtAt.cells T.out.bt
  go_wp2
  go_loopw [24] (fun i wr=>∃ k:Nat,k≤4∧i=.int .i64 (k:Int)∧PtB w w.heap.size w1.heap.size (w1.heap.size+1) x (some ⟨b,o,none⟩) c (headB x k) wr) (fun i _=>4 - (intOf i).toNat)
  case atStart=>exact ⟨0,by omega,rfl,T.out⟩
  case round =>
   clear T x0 x1 x2 x3
   obtain ⟨k,hk,rfl,ht⟩:=hrel
   have T:=Hi ht
   clear ht
   by_cases hlt:k<4
   ·have hl:=headB_len x k
    obtain rfl | rfl | rfl | rfl:k=0∨k=1∨k=2∨k=3:=by omega
    ·have hix:=idx4_0 x.r x.s x.t (x.ops.length:Int) wr
     have HNW:=Hi (fun W=>num_any x.r W)
     rw [numW_ok (n:=x.r) (by have:=HF.out; omega) (by have:=HF.out; omega)] at HNW
     have HNX:=Hi (show headB x 1=headB x 0 ++ Wm.numB (x.r).toNat from by unfold headB; simp)
     have hl2:=numB_small (x.r).toNat
     generalize Wm.numB (x.r).toNat=mk at *
     go_wp2_with fail
     refine (HNW.out _).mono ?_
     rintro e wa ⟨va,rfl,hown,hb'⟩
     dsimp only at hown
     obtain ⟨pa,ka,rfl,hbs,-,-,hpn,-⟩:=hown.bs
     replace T:=Hi (T.out.kept hb')
     have HBS:=Hi hbs
     clear hown hbs hb'
     go_wp2_with fail
     refine (badd_any _ _ _ _ pa ka _ _ T.out.out HBS.out hpn ?_).mono ?_
     ·omega
     rintro e wb ⟨rfl,hout,hchg⟩
     replace T:=Hi (T.out.add hout hchg)
     clear hout hchg HBS hpn
     go_wp2
     go_roundw
     case rel=>exact ⟨1,by omega,by go_num,by rw [HNX.out]; exact T.out⟩
     case measure=>simp [intOf]
    ·have hix:=idx4_1 x.r x.s x.t (x.ops.length:Int) wr
     have HNW:=Hi (fun W=>num_any x.s W)
     rw [numW_ok (n:=x.s) (by have:=HF.out; omega) (by have:=HF.out; omega)] at HNW
     have HNX:=Hi (show headB x 2=headB x 1 ++ Wm.numB (x.s).toNat from by unfold headB; simp)
     have hl2:=numB_small (x.s).toNat
     generalize Wm.numB (x.s).toNat=mk at *
     go_wp2_with fail
     refine (HNW.out _).mono ?_
     rintro e wa ⟨va,rfl,hown,hb'⟩
     dsimp only at hown
     obtain ⟨pa,ka,rfl,hbs,-,-,hpn,-⟩:=hown.bs
     replace T:=Hi (T.out.kept hb')
     have HBS:=Hi hbs
     clear hown hbs hb'
     go_wp2_with fail
     refine (badd_any _ _ _ _ pa ka _ _ T.out.out HBS.out hpn ?_).mono ?_
     ·omega
     rintro e wb ⟨rfl,hout,hchg⟩
     replace T:=Hi (T.out.add hout hchg)
     clear hout hchg HBS hpn
     go_wp2
     go_roundw
     case rel=>exact ⟨2,by omega,by go_num,by rw [HNX.out]; exact T.out⟩
     case measure=>simp [intOf]
    ·have hix:=idx4_2 x.r x.s x.t (x.ops.length:Int) wr
     have HNW:=Hi (fun W=>num_any x.t W)
     rw [numW_ok (n:=x.t) (by have:=HF.out; omega) (by have:=HF.out; omega)] at HNW
     have HNX:=Hi (show headB x 3=headB x 2 ++ Wm.numB (x.t).toNat from by unfold headB; simp)
     have hl2:=numB_small (x.t).toNat
     generalize Wm.numB (x.t).toNat=mk at *
     go_wp2_with fail
     refine (HNW.out _).mono ?_
     rintro e wa ⟨va,rfl,hown,hb'⟩
     dsimp only at hown
     obtain ⟨pa,ka,rfl,hbs,-,-,hpn,-⟩:=hown.bs
     replace T:=Hi (T.out.kept hb')
     have HBS:=Hi hbs
     clear hown hbs hb'
     go_wp2_with fail
     refine (badd_any _ _ _ _ pa ka _ _ T.out.out HBS.out hpn ?_).mono ?_
     ·omega
     rintro e wb ⟨rfl,hout,hchg⟩
     replace T:=Hi (T.out.add hout hchg)
     clear hout hchg HBS hpn
     go_wp2
     go_roundw
     case rel=>exact ⟨3,by omega,by go_num,by rw [HNX.out]; exact T.out⟩
     case measure=>simp [intOf]
    ·have hix:=idx4_3 x.r x.s x.t (x.ops.length:Int) wr
     have HNW:=Hi (fun W=>num_any (x.ops.length:Int) W)
     rw [numW_ok (n:=(x.ops.length:Int)) (by have:=HF.out; omega) (by have:=HF.out; omega)] at HNW
     have HNX:=Hi (show headB x 4=headB x 3 ++ Wm.numB ((x.ops.length:Int)).toNat from by unfold headB; simp)
     have hl2:=numB_small ((x.ops.length:Int)).toNat
     generalize Wm.numB ((x.ops.length:Int)).toNat=mk at *
     go_wp2_with fail
     refine (HNW.out _).mono ?_
     rintro e wa ⟨va,rfl,hown,hb'⟩
     dsimp only at hown
     obtain ⟨pa,ka,rfl,hbs,-,-,hpn,-⟩:=hown.bs
     replace T:=Hi (T.out.kept hb')
     have HBS:=Hi hbs
     clear hown hbs hb'
     go_wp2_with fail
     refine (badd_any _ _ _ _ pa ka _ _ T.out.out HBS.out hpn ?_).mono ?_
     ·omega
     rintro e wb ⟨rfl,hout,hchg⟩
     replace T:=Hi (T.out.add hout hchg)
     clear hout hchg HBS hpn
     go_wp2
     go_roundw
     case rel=>exact ⟨4,by omega,by go_num,by rw [HNX.out]; exact T.out⟩
     case measure=>simp [intOf]
   ·obtain rfl:k=4:=by omega
    rw [show ((4:Nat):Int)=4 from rfl]
    obtain ⟨x0,x1,x2,x3⟩:=BtAt.cells T.out.bt
    go_wp2
    go_loopw [37] (fun i wr=>∃ k:Nat,k≤x.ops.length∧i=.int .i64 (k:Int)∧PtB w w.heap.size w1.heap.size (w1.heap.size+1) x (some ⟨b,o,none⟩) c (headB x 4 ++ opsB (x.ops.take k)) wr) (fun i _=>x.ops.length - (intOf i).toNat)
    case atStart=>exact ⟨0,Nat.zero_le _,rfl,by simpa [opsB] using T.out⟩
    case round =>
     clear T x0 x1 x2 x3
     obtain ⟨k,hk,rfl,ht⟩:=hrel
     have T:=Hi ht
     clear ht
     by_cases hlt:k<x.ops.length
     ·have h64:x.ops.length≤64:=HF.out.2.2.1.2
      have HOW:=Hi (HOS.out _ T.out.below)
      have HXK:=Hi (HOW.out.x k)
      have HPA:=Hi (HOW.out.paOf hlt)
      have HLL:=Hi (show k<l.length by rw [HOW.out.len]; exact hlt)
      have HPT:=Hi (fun (W:World) (hp:Pa W (opOf x.ops k) (enOf l k).q (enOf l k).c)=>oput_any (opOf x.ops k) (enOf l k).q (enOf l k).c W (HSZ.out.of hlt) hp)
      have hrk:=HF.out.2.2.2.2 _ (opOf_mem hlt)
      rw [putO_ok hrk] at HPT
      have HTK:=Hi (opsB_take hlt)
      have hl1:=headB_len x 4
      have hl2:=opB_len hrk
      have hl3:=opsB_len (l:=x.ops.take k) fun y hy=>HF.out.2.2.2.2 y (List.mem_of_mem_take hy)
      have hl4:(x.ops.take k).length≤64:=by rw [List.length_take]; have:=HF.out.2.2.1; omega
      clear hrk
      go_wp2_with (first | (refine wpList_load_en otP rfl _ rfl _ _ _ rfl _ HOW.out.rd HLL.out ?_; rw [HXK.out]) | (refine wpList_store_newop' otP rfl _ _ rfl rfl _ rfl _ _ _ rfl ?_; intro wy hvy hby) | (refine wpList_load_op otP rfl _ rfl _ rfl _ _ _ (by assumption) ?_))
      refine (HPT.out _ (HPA.out.kept hby)).mono ?_
      replace T:=Hi (T.out.kept hby)
      clear hby hvy
      rintro e wa ⟨va,rfl,hown,hb'⟩
      dsimp only at hown
      obtain ⟨pa,ka,rfl,hbs,-,-,hpn,-⟩:=hown.bs
      replace T:=Hi (T.out.kept hb')
      have HBS:=Hi hbs
      clear hown hbs hb'
      generalize opB (opOf x.ops k)=mo at *
      go_wp2_with fail
      refine (badd_any _ _ _ _ pa ka _ _ T.out.out HBS.out hpn ?_).mono ?_
      ·rw [List.length_append]; omega
      rintro e wb ⟨rfl,hout,hchg⟩
      replace T:=Hi (T.out.add hout hchg)
      clear hout hchg HBS hpn
      go_wp2
      go_roundw
      case rel=>exact ⟨k+1,by omega,by go_num,by rw [HTK.out,← List.append_assoc]; exact T.out⟩
      case measure=>simp [intOf]; omega
     ·obtain rfl:k=x.ops.length:=by omega
      have HTP:=Hi (List.take_length (l:=x.ops))
      rw [HTP.out,batB_head] at T
      obtain ⟨v,hv,hown⟩:=T.out.out.row
      have HO:=Hi hown
      obtain ⟨pv,cv,rfl,-⟩:=hown.bs
      clear hown
      generalize batB x=bb at *
      go_wp2
      go_ret2
      rw [HP.out]
      exact ⟨_,rfl,HO.out.base (by have:=T.out.hXo; omega),T.out.below⟩
end Go.Proofs.YtfgnmnkihbgjnaaGreat

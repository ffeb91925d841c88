/-
  THE DOCUMENT's Same, Put, Frame over batches: the program's answers.
  No conditions but sizes.
-/
import Derived.Test.YtfgnmnkihbgjnaaGreatSh
import Derived.Test.YtfgnmnkihbgjnaaGreatGT
import Derived.Test.YtfgnmnkihbgjnaaGreatRoPut
import Derived.Test.YtfgnmnkihbgjnaaGreatGG
import Derived.Test.YtfgnmnkihbgjnaaGreatBtPut
set_option maxRecDepth 100000
set_option maxHeartbeats 8000000
namespace Go.Proofs.YtfgnmnkihbgjnaaGreat
open Go.RowKit
theorem r8same_any (x y:Bat) (p q:Option Addr) (c d:Nat) (w:World) (hs:Szs x.ops) (h:Bops w x p c) (h':Bops w y q d) :
  Calls Tryz.prog 17 #[.agg (btA x p c),.agg (btA y q d)] w fun e w'=>e=.returned (.bool (sameT x y))∧Below w.heap.size w w':=by
 obtain ⟨l,h⟩:=h
 obtain ⟨m,h'⟩:=h'
 obtain ⟨HX,HY,HB⟩:=two_bt w x y p q c d 43
 have HSZ:=Hi hs
 have hlen:=hs.len
 have HW:=Hi (show ∀ W,Below w.heap.size w W→Os W p c l x.ops∧Os W q d m y.ops from fun W hb=>⟨h.kept hb,h'.kept hb⟩)
 clear h h' hs
 obtain ⟨x0,x1,x2,x3⟩:=BtAt.cells HX.out
 obtain ⟨y0,y1,y2,y3⟩:=BtAt.cells HY.out
 by_cases h0:x.r=y.r
 rotate_left
 ·have d0:(x.r == y.r)=false:=by simpa using h0
  have e0:(x.r != y.r)=true:=by simpa using h0
  have HR:=Hi (show sameT x y=false by unfold sameT; rw [d0]; simp)
  clear h0
  generalize x.ops.length=n at *
  generalize y.ops.length=n' at *
  go_enter Tryz.func17,Tryz.ntmps17
  go_wp2
  go_ret
  exact ⟨ret_b HR.out.symm,HB.out⟩
 have d0:(x.r == y.r)=true:=by simpa using h0
 have e0:(x.r != y.r)=false:=by simpa using h0
 by_cases h1:x.s=y.s
 rotate_left
 ·have d1:(x.s == y.s)=false:=by simpa using h1
  have e1:(x.s != y.s)=true:=by simpa using h1
  have HR:=Hi (show sameT x y=false by unfold sameT; rw [d0,d1]; simp)
  clear h0 h1
  generalize x.ops.length=n at *
  generalize y.ops.length=n' at *
  go_enter Tryz.func17,Tryz.ntmps17
  go_wp2
  go_ret
  exact ⟨ret_b HR.out.symm,HB.out⟩
 have d1:(x.s == y.s)=true:=by simpa using h1
 have e1:(x.s != y.s)=false:=by simpa using h1
 by_cases h2:x.t=y.t
 rotate_left
 ·have d2:(x.t == y.t)=false:=by simpa using h2
  have e2:(x.t != y.t)=true:=by simpa using h2
  have HR:=Hi (show sameT x y=false by unfold sameT; rw [d0,d1,d2]; simp)
  clear h0 h1 h2
  generalize x.ops.length=n at *
  generalize y.ops.length=n' at *
  go_enter Tryz.func17,Tryz.ntmps17
  go_wp2
  go_ret
  exact ⟨ret_b HR.out.symm,HB.out⟩
 have d2:(x.t == y.t)=true:=by simpa using h2
 have e2:(x.t != y.t)=false:=by simpa using h2
 have HR0:=Hi (show sameT x y=sameL x.ops y.ops by unfold sameT; rw [d0,d1,d2]; rfl)
 clear h0 h1 h2
 by_cases hn:x.ops.length=y.ops.length
 rotate_left
 ·have HR:=Hi (HR0.out.trans (sameL_len hn))
  have e3:((x.ops.length:Int) != (y.ops.length:Int))=true:=by rw [bne_iff_ne]; omega
  generalize x.ops.length=n at *
  generalize y.ops.length=n' at *
  go_enter Tryz.func17,Tryz.ntmps17
  go_wp2
  go_ret
  exact ⟨ret_b HR.out.symm,HB.out⟩
 have HN:=Hi hn
 rw [← hn] at y3
 clear hn
 go_enter Tryz.func17,Tryz.ntmps17
 go_wp2
 go_loopw [5] (fun i wr=>∃ k:Nat,k≤x.ops.length∧i=.int .i64 (k:Int)∧(∀ j,j<k→sameO (opOf x.ops j) (opOf y.ops j)=true)∧BtAt wr w.heap.size x p c∧BtAt wr (w.heap.size+1) y q d∧Below w.heap.size w wr) (fun i _=>x.ops.length - (intOf i).toNat)
 case atStart=>exact ⟨0,Nat.zero_le _,rfl,fun j hj=>absurd hj (Nat.not_lt_zero _),HX.out,HY.out,HB.out⟩
 case round =>
  clear x0 x1 x2 x3 y0 y1 y2 y3 HX HY HB d0 d1 d2 e0 e1 e2
  obtain ⟨k,hk,rfl,ho,hx,hy,hbw⟩:=hrel
  have HO:=Hi ho
  have HX:=Hi hx
  have HY:=Hi hy
  have HBW:=Hi hbw
  clear ho hx hy hbw
  by_cases hlt:k<x.ops.length
  ·have f0:decide ((k:Int)<(x.ops.length:Int))=true:=decide_eq_true (by omega)
   have hlty:k<y.ops.length:=by rw [← HN.out]; exact hlt
   have HOX:=Hi (HW.out _ HBW.out).1
   have HOY:=Hi (HW.out _ HBW.out).2
   have HXK:=Hi (HOX.out.x k)
   have HYK:=Hi (HOY.out.x k)
   have HPX:=Hi (HOX.out.paOf hlt)
   have HPY:=Hi (HOY.out.paOf hlty)
   have HLL:=Hi (show k<l.length by rw [HOX.out.len]; exact hlt)
   have HLM:=Hi (show k<m.length by rw [HOY.out.len]; exact hlty)
   obtain ⟨b,o,rfl,-⟩:=HOX.out.rd.addr (by rw [enCells_length,HOX.out.len]; omega)
   obtain ⟨b',o',rfl,-⟩:=HOY.out.rd.addr (by rw [enCells_length,HOY.out.len]; omega)
   have HN2:=Hi (fun (W:World) (hb:Bel wr W)=>rsame_any (opOf x.ops k) (opOf y.ops k) (enOf l k).q (enOf m k).q (enOf l k).c (enOf m k).c W (HSZ.out.of hlt).path (HPX.out.kept hb) (HPY.out.kept hb))
   have HNO:=Hi (fun h=>sameL_no (l:=x.ops) (m:=y.ops) (k:=k) h)
   have HST:=Hi (show sameO (opOf x.ops k) (opOf y.ops k)=true→∀ j,j<k+1→sameO (opOf x.ops j) (opOf y.ops j)=true from fun he j hj=>by
    rcases Nat.lt_or_ge j k with e | e
    ·exact HO.out j e
    ·obtain rfl:j=k:=by omega
     exact he)
   have x3:=(BtAt.cells HX.out).2.2.2
   have y3:=(BtAt.cells HY.out).2.2.2
   rw [← HN.out] at y3
   clear hlty
   generalize hss:sameO (opOf x.ops k) (opOf y.ops k)=ss at *
   clear hss
   go_upto_region 6 with fail
   refine wp_region_held_drew (S:=Bel wr) (by kernel_rfl) (Bel.start wr) (fun hS=>?_)
   refine tX 0 rfl hS ?_
   refine tK 1 (v:=?_) rfl ?_ hS ?_
   rotate_left
   ·intro W hSW
    have x3':=hSW.get x3
    go_simp
    all_goals with_reducible rfl
   refine tX 2 rfl hS ?_
   go_simp
   refine tX 3 rfl hS ?_
   refine tK 4 (v:=.agg (opA _ _ _)) rfl (fun W hSW=>exec_load_en otR rfl rfl _ (HOX.out.kept hSW).rd HLL.out) hS ?_
   rw [HXK.out]
   go_simp
   refine tX 5 rfl hS ?_
   refine tK 6 (v:=?_) rfl ?_ hS ?_
   rotate_left
   ·intro W hSW
    have y3':=hSW.get y3
    go_simp
    all_goals with_reducible rfl
   refine tX 7 rfl hS ?_
   go_simp
   refine tX 8 rfl hS ?_
   refine tK 9 (v:=.agg (opA _ _ _)) rfl (fun W hSW=>exec_load_en otR rfl rfl _ (HOY.out.kept hSW).rd HLM.out) hS ?_
   rw [HYK.out]
   go_simp
   refine rD 10 rfl (fun K hK=>?_)
   go_simp
   go_wp2_with ((go_at_call 50; refine (HN2.out _ hS).mono ?_; rintro e wn ⟨rfl,hbn⟩))
   refine hK.out _ _ (hS.trans hbn) (fun hS=>?_)
   clear hK K
   refine tX 11 rfl hS ?_
   go_simp
   have HS:=Hi hS
   refine wpAnyH_done (by kernel_rfl) ?_ _
   have HB2:=Hi (HBW.out.trans (Below.mono HS.out HBW.out.size))
   have HX2:=Hi (AgAt.kept HX.out HS.out)
   have HY2:=Hi (AgAt.kept HY.out HS.out)
   clear HS
   cases ss with
   | false =>
    have HR:=Hi (HR0.out.trans (HNO.out rfl))
    go_wp2
    go_ret
    exact ⟨ret_b HR.out.symm,HB2.out⟩
   | true =>
    have HR:=Hi (HST.out rfl)
    clear x3 y3
    go_wp2
    go_roundw
    case rel=>exact ⟨k+1,by omega,by go_num,HR.out,HX2.out,HY2.out,HB2.out⟩
    case measure=>simp [intOf]; omega
  ·obtain rfl:k=x.ops.length:=by omega
   have f0:decide ((x.ops.length:Int)<(x.ops.length:Int))=false:=decide_eq_false (by omega)
   have x3:=(BtAt.cells HX.out).2.2.2
   have HR:=Hi (HR0.out.trans (sameL_yes HN.out (fun i hi=>HO.out i (by rw [HN.out]; exact hi))))
   clear HO
   generalize x.ops.length=n at *
   go_wp2
   go_ret
   exact ⟨ret_b HR.out.symm,HBW.out⟩
structure RpB (w0:World) (x:Bat) (p:Option Addr) (c:Nat) (v:Value) (l:List UInt8) (w:World):Prop where
 at_:BtAt w w0.heap.size x p c
 below:Below w0.heap.size w0 w
 own:Own 5 w (w0.heap.size+1) v l
theorem RpB.kept {w0 w w':World} {x:Bat} {p:Option Addr} {c:Nat} {v:Value} {l:List UInt8} (h:RpB w0 x p c v l w) (hb:Below w.heap.size w w'):RpB w0 x p c v l w' :=
 ⟨AgAt.kept h.at_ hb,h.below.trans (hb.mono h.below.size),Own.below h.own hb⟩
theorem RpB.app {w0 w w':World} {x:Bat} {p:Option Addr} {c:Nat} {v v':Value} {l l':List UInt8} (h:RpB w0 x p c v l w) (ho:Own 5 w' (w0.heap.size+1) v' l') (hb:Below (w0.heap.size+1) w w'):RpB w0 x p c v' l' w' :=
 ⟨AgAt.below h.at_ hb (Nat.lt_succ_self _),h.below.trans (hb.mono (Nat.le_succ _)),ho⟩
theorem RpB.le {w0 w:World} {x:Bat} {p:Option Addr} {c:Nat} {v:Value} {l:List UInt8} (h:RpB w0 x p c v l w):w0.heap.size+1≤w.heap.size:=AgAt.lt h.at_
theorem r8put_any (x:Bat) (p:Option Addr) (c:Nat) (w:World) (hs:Szs x.ops) (h:Bops w x p c):Calls Tryz.prog 67 #[.agg (btA x p c)] w (MadeB 5 w (putT x).1):=by
 have HX:=Hi (AgAt.new w (btA x p c) 43)
 have HB:=Hi ((Below.refl w.heap.size w).alloc (Nat.le_refl _) (.cells (btA x p c) 43))
 have HRI:=Hi (fun W (hw:Below w.heap.size w W)=>r8right_any x p c W hs (h.kept hw))
 have HSZ:=Hi hs
 have hx:=HX.out
 cases hr:rightT x with
 | false =>
  have HP:=Hi (putT_err hr)
  rw [hr] at HRI
  clear h hs hr
  go_enter Tryz.func67,Tryz.ntmps67
  go_wp2_with (refine wpList_load_ag btR (by kernel_rfl) _ rfl _ rfl (A:=btA x p c) rfl (by assumption) ?_)
  refine (HRI.out _ HB.out).mono ?_
  rintro e w1 ⟨rfl,hb1⟩
  have HB2:=Hi (HB.out.trans (hb1.mono HB.out.size))
  clear hb1 hx
  go_wp2
  go_ret
  rw [HP.out]
  exact ⟨_,rfl,Own.nil _ _ _,HB2.out⟩
 | true =>
  obtain ⟨i0,hi,hz0,hz1,hz2⟩:=info_parts info_u8
  have HP:=Hi (putT_ok hr)
  have HF:=Hi (rightT_iff.1 hr)
  have hF:=HF.out
  rw [hr] at HRI
  obtain ⟨l,h⟩:=h
  have HOS:=Hi (fun W (hw:Below w.heap.size w W)=>h.kept hw)
  obtain ⟨b,o,rfl,hb⟩:=h.rd.addr (by rw [enCells_length,h.len]; omega)
  have HBB:=Hi (show batB x=Wm.numB x.r.toNat ++ (Wm.numB x.s.toNat ++ (Wm.numB x.t.toNat ++ (Wm.numB x.ops.length ++ opsB x.ops))) from rfl)
  have HC0:=Hi (fun W=>refNum_any x.r W)
  rw [show (numW x.r).1=Wm.numB x.r.toNat from numW_one (by omega) (by omega)] at HC0
  have HC1:=Hi (fun W=>refNum_any x.s W)
  rw [show (numW x.s).1=Wm.numB x.s.toNat from numW_one (by omega) (by omega)] at HC1
  have HC2:=Hi (fun W=>refNum_any x.t W)
  rw [show (numW x.t).1=Wm.numB x.t.toNat from numW_one (by omega) (by omega)] at HC2
  have HC3:=Hi (fun W=>refNum_any (x.ops.length:Int) W)
  rw [show (numW (x.ops.length:Int)).1=Wm.numB x.ops.length from numW_one (by omega) (by omega)] at HC3
  have k0:=numB_small x.r.toNat
  have k1:=numB_small x.s.toNat
  have k2:=numB_small x.t.toNat
  have k3:=numB_small x.ops.length
  generalize Wm.numB x.r.toNat=m0 at *
  generalize Wm.numB x.s.toNat=m1 at *
  generalize Wm.numB x.t.toNat=m2 at *
  generalize Wm.numB x.ops.length=m3 at *
  have h64:x.ops.length≤64:=by omega
  clear h hs hr hF
  go_enter Tryz.func67,Tryz.ntmps67
  go_wp2_with (refine wpList_load_ag btR (by kernel_rfl) _ rfl _ rfl (A:=btA x _ c) rfl (by assumption) ?_)
  refine (HRI.out _ HB.out).mono ?_
  rintro e w1 ⟨rfl,hb1⟩
  replace HX:=Hi (HX.out.kept hb1)
  replace HB:=Hi (HB.out.trans (hb1.mono HB.out.size))
  clear hb1 hx HRI
  go_upto_region 3 with fail
  have HS0:=Hi (AgAt.kept HX.out (Below.drew (Below.refl _ _)))
  have HB0:=Hi (HB.out.trans ((Below.drew (Below.refl _ _)).mono HB.out.size))
  refine wp_region_held_drew (S:=(fun W=>BtAt W w.heap.size x (some ⟨b,o,none⟩) c)) (by kernel_rfl) HS0.out (fun hS=>?_)
  clear HS0
  clear HX HB
  refine tX 0 rfl hS ?_
  refine tK 1 (v:=?_) rfl ?_ hS ?_
  rotate_left
  ·intro W hSW
   have z0:=(BtAt.cells hSW).1
   go_simp
   all_goals with_reducible rfl
  go_simp
  refine tX 3 rfl hS ?_
  refine tK 4 (v:=?_) rfl ?_ hS ?_
  rotate_left
  ·intro W hSW
   have z1:=(BtAt.cells hSW).2.1
   go_simp
   all_goals with_reducible rfl
  go_simp
  refine rD 2 rfl (fun K hK=>?_)
  go_simp
  go_wp2_with ((go_at_call 91; refine (HC0.out _).mono ?_; rintro e wa ⟨va,rfl,hown,hb⟩))
  have T:=Hi (show RpB w x (some ⟨b,o,none⟩) c va m0 wa from ⟨AgAt.kept hS hb,HB0.out.trans (hb.mono HB0.out.size),hown.base (AgAt.lt hS)⟩)
  clear hown hb HB0
  obtain ⟨pb,kb,rfl,-⟩:=T.out.own.bs
  refine hK.out _ _ T.out.at_ (fun hS=>?_)
  clear hK K
  refine rD 5 rfl (fun K hK=>?_)
  go_simp
  go_wp2_with ((go_at_call 91; refine (HC1.out _).mono ?_; rintro e wa ⟨va,rfl,hown,hb⟩))
  obtain ⟨pa,ka,rfl,hbs,-,-,hpn,-⟩:=hown.bs
  replace T:=Hi (T.out.kept hb)
  have HBS:=Hi hbs
  have HPN:=Hi hpn
  clear hown hbs hb hpn
  refine hK.out _ _ T.out.at_ (fun hS=>?_)
  clear hK K
  refine rD 6 rfl (fun K hK=>?_)
  refine step_append_bs (by kernel_rfl) _ _ 103 rfl (w.heap.size+1) 5 i0 Tryz.underlying103 hi hz0 hz1 hz2 _ m0 rfl T.out.own pa ka m1 rfl HBS.out HPN.out (by omega) T.out.le ?_
  intro vb wb hown hbel
  have T2:=T.out.app hown hbel
  clear T
  have T:=Hi T2
  clear T2 hown hbel HBS HPN
  have lenL1:(m0 ++ m1).length≤14:=by rw [List.length_append]; omega
  generalize hgl:m0 ++ m1=L1 at *
  have HLL1:=Hi hgl
  clear hgl
  obtain ⟨pb,kb,rfl,-⟩:=T.out.own.bs
  refine hK.out _ _ T.out.at_ (fun hS=>?_)
  clear hK K
  refine tX 7 rfl hS ?_
  go_simp
  refine wpAnyH_done (by kernel_rfl) ?_ _
  go_upto_region 4 with fail
  have HS0:=Hi (show BtAt _ w.heap.size x (some ⟨b,o,none⟩) c from (T.out.kept (Below.drew (Below.refl _ _))).at_)
  replace T:=Hi (T.out.kept (Below.drew (Below.refl _ _)))
  refine wp_region_held_drew (S:=(fun W=>BtAt W w.heap.size x (some ⟨b,o,none⟩) c)) (by kernel_rfl) HS0.out (fun hS=>?_)
  clear HS0
  refine tX 0 rfl hS ?_
  refine tX 1 rfl hS ?_
  refine tK 2 (v:=?_) rfl ?_ hS ?_
  rotate_left
  ·intro W hSW
   have z2:=(BtAt.cells hSW).2.2.1
   go_simp
   all_goals with_reducible rfl
  go_simp
  refine tX 5 rfl hS ?_
  refine tK 6 (v:=?_) rfl ?_ hS ?_
  rotate_left
  ·intro W hSW
   have z3:=(BtAt.cells hSW).2.2.2
   go_simp
   all_goals with_reducible rfl
  refine tX 7 rfl hS ?_
  go_simp
  refine rD 3 rfl (fun K hK=>?_)
  go_simp
  go_wp2_with ((go_at_call 91; refine (HC2.out _).mono ?_; rintro e wa ⟨va,rfl,hown,hb⟩))
  obtain ⟨pa,ka,rfl,hbs,-,-,hpn,-⟩:=hown.bs
  replace T:=Hi (T.out.kept hb)
  have HBS:=Hi hbs
  have HPN:=Hi hpn
  clear hown hbs hb hpn
  refine hK.out _ _ T.out.at_ (fun hS=>?_)
  clear hK K
  refine rD 4 rfl (fun K hK=>?_)
  refine step_append_bs (by kernel_rfl) _ _ 103 rfl (w.heap.size+1) 5 i0 Tryz.underlying103 hi hz0 hz1 hz2 _ L1 rfl T.out.own pa ka m2 rfl HBS.out HPN.out (by omega) T.out.le ?_
  intro vb wb hown hbel
  have T2:=T.out.app hown hbel
  clear T
  have T:=Hi T2
  clear T2 hown hbel HBS HPN
  have lenL2:(L1 ++ m2).length≤21:=by rw [List.length_append]; omega
  generalize hgl:L1 ++ m2=L2 at *
  have HLL2:=Hi hgl
  clear hgl
  obtain ⟨pb,kb,rfl,-⟩:=T.out.own.bs
  refine hK.out _ _ T.out.at_ (fun hS=>?_)
  clear hK K
  refine rD 8 rfl (fun K hK=>?_)
  go_simp
  go_wp2_with ((go_at_call 91; refine (HC3.out _).mono ?_; rintro e wa ⟨va,rfl,hown,hb⟩))
  obtain ⟨pa,ka,rfl,hbs,-,-,hpn,-⟩:=hown.bs
  replace T:=Hi (T.out.kept hb)
  have HBS:=Hi hbs
  have HPN:=Hi hpn
  clear hown hbs hb hpn
  refine hK.out _ _ T.out.at_ (fun hS=>?_)
  clear hK K
  refine rD 9 rfl (fun K hK=>?_)
  refine step_append_bs (by kernel_rfl) _ _ 103 rfl (w.heap.size+1) 5 i0 Tryz.underlying103 hi hz0 hz1 hz2 _ L2 rfl T.out.own pa ka m3 rfl HBS.out HPN.out (by omega) T.out.le ?_
  intro vb wb hown hbel
  have T2:=T.out.app hown hbel
  clear T
  have T:=Hi T2
  clear T2 hown hbel HBS HPN
  have lenL3:(L2 ++ m3).length≤28:=by rw [List.length_append]; omega
  generalize hgl:L2 ++ m3=L3 at *
  have HLL3:=Hi hgl
  clear hgl
  obtain ⟨pb,kb,rfl,-⟩:=T.out.own.bs
  refine hK.out _ _ T.out.at_ (fun hS=>?_)
  clear hK K
  refine tX 10 rfl hS ?_
  go_simp
  refine wpAnyH_done (by kernel_rfl) ?_ _
  go_wp2
  go_loopw [3,4] (fun v i wr=>∃ (k:Nat) (l':List UInt8) (pv:Option Addr) (cv:Nat),k≤x.ops.length∧i=.int .i64 (k:Int)∧v=.slice pv l'.length cv∧RpB w x (some ⟨b,o,none⟩) c (.slice pv l'.length cv) l' wr∧l'=L3 ++ opsB (x.ops.take k)) (fun _ i _=>x.ops.length - (intOf i).toNat)
  case atStart=>exact ⟨0,_,_,_,Nat.zero_le _,rfl,rfl,T.out,by simp [opsB]⟩
  case round =>
   clear T
   obtain ⟨k,l',pv,cv,hk,rfl,rfl,ht,hl⟩:=hrel
   have T:=Hi ht
   have HL:=Hi hl
   clear ht
   have lpa:=opsB_len (l:=x.ops.take k) fun y hy=>HF.out.2.2.2.2 y (List.mem_of_mem_take hy)
   have ltk:(x.ops.take k).length≤64:=by rw [List.length_take]; omega
   have lll:l'.length≤70000:=by rw [hl,List.length_append]; omega
   clear hl lpa ltk
   have x3:=(BtAt.cells T.out.at_).2.2.2
   by_cases hlt:k<x.ops.length
   ·have d0:decide ((k:Int)<(x.ops.length:Int))=true:=decide_eq_true (by omega)
    have HOW:=Hi (HOS.out _ T.out.below)
    have HXK:=Hi (HOW.out.x k)
    have HPA:=Hi (HOW.out.paOf hlt)
    have HLL:=Hi (show k<l.length by rw [HOW.out.len]; exact hlt)
    have HPT:=Hi (rput_any (opOf x.ops k) (enOf l k).q (enOf l k).c wr (HSZ.out.of hlt) HPA.out)
    have hrk:=HF.out.2.2.2.2 _ (opOf_mem hlt)
    rw [putO_ok hrk] at HPT
    have hl2:=opB_len hrk
    have HTK:=Hi (opsB_take hlt)
    clear hrk
    dsimp only at HPT
    generalize opB (opOf x.ops k)=mo at *
    go_wp2_with (refine wpList_load_en otR rfl _ rfl _ _ _ rfl _ HOW.out.rd HLL.out ?_; rw [HXK.out])
    refine HPT.out.mono ?_
    rintro e wa ⟨va,rfl,hown,hb'⟩
    obtain ⟨pa,ka,rfl,hbs,-,-,hpn,-⟩:=hown.bs
    replace T:=Hi (T.out.kept hb')
    have HBS:=Hi hbs
    clear hown hbs hb' x3
    go_wp2_with (at_builtin; refine wpList_append_bs rfl _ _ 103 rfl (w.heap.size+1) 5 i0 Tryz.underlying103 hi hz0 hz1 hz2 _ l' rfl T.out.own pa ka mo rfl HBS.out hpn ?b0 ?b1 ?_)
    case b0=>omega
    case b1=>exact T.out.le
    intro vb wb hown hbel hgrow hnil
    clear hgrow hnil hpn HBS
    have T2:=T.out.app hown hbel
    clear T
    have T:=Hi T2
    clear T2 hown hbel
    generalize hgl:l' ++ mo=LN at *
    have HLLN:=Hi hgl
    clear hgl
    obtain ⟨pb,kb,rfl,-⟩:=T.out.own.bs
    go_wp2
    go_roundw
    case rel=>exact ⟨k+1,LN,pb,kb,by omega,by go_num,rfl,T.out,by rw [HTK.out,← List.append_assoc,← HL.out]; exact HLLN.out.symm⟩
    case measure=>simp [intOf]; omega
   ·obtain rfl:k=x.ops.length:=by omega
    have d0:decide ((x.ops.length:Int)<(x.ops.length:Int))=false:=decide_eq_false (by omega)
    rw [List.take_length] at HL
    have HE:=Hi (show l'=batB x from by rw [HBB.out,HL.out,← HLL3.out,← HLL2.out,← HLL1.out]; simp only [List.append_assoc])
    clear HOS
    generalize x.ops.length=n at *
    go_wp2
    go_ret
    rw [HP.out]
    exact ⟨_,rfl,by rw [← HE.out]; exact T.out.own.base (Nat.le_succ _),T.out.below⟩
end Go.Proofs.YtfgnmnkihbgjnaaGreat

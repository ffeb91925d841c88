/-
  THE DOCUMENT's Put over ops: the program's bytes.
  No conditions but sizes.
-/
import Derived.Test.YtfgnmnkihbgjnaaGreatSh
import Derived.Test.YtfgnmnkihbgjnaaGreatGT
import Derived.Test.YtfgnmnkihbgjnaaGreatOPut
import Derived.Test.YtfgnmnkihbgjnaaGreatRef
import Derived.Test.YtfgnmnkihbgjnaaGreatHB
set_option maxRecDepth 100000
set_option maxHeartbeats 4000000
namespace Go.Proofs.YtfgnmnkihbgjnaaGreat
open Go.RowKit
theorem step_append_bs {P:Program} {w:World} {ops:Array Oper} {o:Oper} {a:Act} {K:Act→World→Prop} {Q:Exit→Act→World→Prop} {E:Prop} (hw:Region.wanted o (yielded ops a.tmps)=true) (s x:Operand) (t:TypeId)
  (ho:o.op=.call { callee:=.builtin .append,args:=#[s,x],argTypes:=#[t,t] })
  (base:Nat) (e:TypeId) (i:TypeInfo) (ht:P.underlying t=some (.slice e)) (hi:P.info? e=some i) (hz:i.zero=some (.int .u8 0))
  (hsize:i.size=1) (hby:i.bytes=1)
  (v:Value) (xs:List UInt8) (hs:a.eval s=v) (hown:Own e w base v xs)
  (p:Option Addr) (c:Nat) (l:List UInt8) (hx:a.eval x=.slice p l.length c) (hbs:Bs w p l) (hpn:p=none→c=0)
  (hbytes:xs.length+l.length≤211106232532992) (hbase:base≤w.heap.size)
  (h:∀ v' w',Own e w' base v' (xs ++ l)→Below base w w'→K (a.put o.dst v') w'):if Region.wanted o (yielded ops a.tmps)=true then Oper.wp P o a w K Q else E:=by
 rw [if_pos hw]
 obtain ⟨v',w',hr,h2,h3,-⟩:=run_append_rd (P:=P) w base t o.type e i (.int .u8 0) 1 ht hi hz hsize hby (by decide) rfl v xs.length (vals xs) hown p c (vals l) hbs.rd hpn vals_one
  (by rw [vals_length]; omega) (by rw [vals_length]; unfold maxLen; omega) hbase
 rw [vals_length] at hr h2
 unfold Oper.wp execOp
 simp only [ho,resolve,invoke,builtin,Sem.run_bind,Sem.run_pure,Result.andThen_ok,List.map_toArray,List.map_cons,List.map_nil,hs,hx,hr]
 refine h v' w' ?_ ?_
 ·unfold Own; rw [vals_append,List.length_append]; exact h2
 ·exact (Below.refl _ _).grown h3 hbase fun k hk=>(World.ownsRow.lt hown k hk).1
theorem refPut_any (t r:Int) (w:World):Calls Tryz.prog 111 #[.agg #[.int .i64 t,.int .i64 r]] w (MadeB 5 w (putW t r).1):=by
 obtain ⟨i0,hi,hz0,hz1,hz2⟩:=info_parts info_u8
 have hb:=(Below.refl w.heap.size w).alloc (Nat.le_refl _) (.cells #[.int .i64 t,.int .i64 r] 50)
 have HB:=Hi hb
 cases hR:rightB t r with
 | false =>
  have HR:=Hi (show putW t r=([],1) by unfold putW; rw [if_neg (by simp [hR])])
  have HRB:=Hi hR
  clear hR hb
  go_enter Tryz.func111,Tryz.ntmps111
  go_wp2_with fail
  refine (rsRight_any t r _).mono ?_
  rw [HRB.out]
  rintro e w1 ⟨rfl,hb1⟩
  have HB1:=Hi (HB.out.trans (hb1.mono (by simp)))
  clear hb1
  go_wp2
  go_ret
  rw [HR.out]
  exact ⟨_,rfl,Own.nil _ _ _,HB1.out⟩
 | true =>
  obtain ⟨h0,h1,h2,h3⟩:=rightB_yes hR
  have HR:=Hi (show putW t r=(Wm.numB t.toNat ++ Wm.numB r.toNat,0) by unfold putW; rw [if_pos hR])
  have HRB:=Hi hR
  have HN1:=Hi (show (numW t).1=Wm.numB t.toNat by unfold numW; rw [if_pos (by omega)])
  have HN2:=Hi (show (numW r).1=Wm.numB r.toNat by unfold numW; rw [if_pos (by omega)])
  have s1:=numB_small t.toNat
  have s2:=numB_small r.toNat
  generalize Wm.numB t.toNat=x at *
  generalize Wm.numB r.toNat=y at *
  clear hR hb h0 h1 h2 h3
  go_enter Tryz.func111,Tryz.ntmps111
  go_wp2_with fail
  refine (rsRight_any t r _).mono ?_
  rw [HRB.out]
  rintro e w1 ⟨rfl,hb1⟩
  have HTW:=Hi (((TwoAt.start w t r).kept hb1).kept ((Below.refl w1.heap.size w1).drew))
  have c0:=(TwoAt.start w t r).kept hb1 |>.cell0
  have c1:=(TwoAt.start w t r).kept hb1 |>.cell1
  have HB1:=Hi ((HB.out.trans (hb1.mono (by simp))).trans (((Below.refl w1.heap.size w1).drew).mono (Nat.le_of_lt (cell_lt c0))))
  have hl1:w.heap.size<w1.heap.size:=cell_lt c0
  clear hb1
  go_wp2
  refine wp_region_any (by kernel_rfl) ?_
  try (change wpAny _ _ _ _ _ _ _ (World.drew _))
  refine wpAny_take (i:=0) (v:=?_) rfl (by kernel_rfl) (by kernel_rfl) (by kernel_rfl) (fun _ _ _ h=>h) (Or.inl ⟨by kernel_rfl,?_⟩) ?_
  rotate_left
  ·intro w; go_simp
   all_goals with_reducible rfl
  refine wpAny_take (i:=3) (v:=?_) rfl (by kernel_rfl) (by kernel_rfl) (by kernel_rfl) (fun _ _ _ h=>h) (Or.inl ⟨by kernel_rfl,?_⟩) ?_
  rotate_left
  ·intro w; go_simp
   all_goals with_reducible rfl
  refine wpAny_ready (rs:=[1,4]) (by kernel_rfl) (by simp) ?_
  refine AllReady.cons rfl (fun K hK=>?_) (AllReady.cons rfl (fun K hK=>?_) (AllReady.nil))
  ·
   go_simp
   try (refine hK _ _ ?_)
   try (clear hK K)
   refine wpAny_ready (rs:=[2,4]) (by kernel_rfl) (by simp) ?_
   refine AllReady.cons rfl (fun K hK=>?_) (AllReady.cons rfl (fun K hK=>?_) (AllReady.nil))
   ·
    go_simp
    go_wp2_with (go_at_call 91; refine (refNum_any t _).mono ?_; rw [HN1.out]; rintro e w2 ⟨v2,rfl,hown2,hb2⟩; have HO2:=Hi (hown2.base (show w.heap.size≤w1.drew.heap.size from Nat.le_of_lt hl1)); have HB2:=Hi (HB1.out.trans (hb2.mono HB1.out.size)); have y1:=(HTW.out.kept hb2).cell1; clear hown2 hb2)
    try (refine hK _ _ ?_)
    try (clear hK K)
    refine wpAny_ready (rs:=[4]) (by kernel_rfl) (by simp) ?_
    refine AllReady.cons rfl (fun K hK=>?_) (AllReady.nil)
    go_simp
    try (refine hK _ _ ?_)
    try (clear hK K)
    refine wpAny_ready (rs:=[5]) (by kernel_rfl) (by simp) ?_
    refine AllReady.cons rfl (fun K hK=>?_) (AllReady.nil)
    go_simp
    go_wp2_with (go_at_call 91; refine (refNum_any r _).mono ?_; rw [HN2.out]; rintro e w3 ⟨v3,rfl,hown3,hb3⟩; obtain ⟨p3,k3,rfl,hbs3,-,-,hpn3,-⟩:=hown3.bs; have HO3:=Hi (HO2.out.below hb3); have HBS:=Hi hbs3; have HB3:=Hi (HB2.out.trans (hb3.mono HB2.out.size)); have hs3:w.heap.size≤w3.heap.size:=HB3.out.size; clear hown3 hbs3 hb3)
    try (refine hK _ _ ?_)
    try (clear hK K)
    refine wpAny_ready (rs:=[6]) (by kernel_rfl) (by simp) ?_
    refine AllReady.cons rfl (fun K hK=>?_) (AllReady.nil)
    refine step_append_bs (by kernel_rfl) _ _ 103 rfl w.heap.size 5 i0 Tryz.underlying103 hi hz0 hz1 hz2 _ x rfl HO3.out p3 k3 y rfl HBS.out hpn3 (by omega) hs3 ?_
    intro v4 w4 hown4 hbel4
    have HO4:=Hi hown4
    have HB4:=Hi (HB3.out.trans hbel4)
    clear hown4 hbel4
    refine hK _ _ ?_
    clear hK K
    refine wpAny_take (i:=7) (v:=?_) rfl (by kernel_rfl) (by kernel_rfl) (by kernel_rfl) (fun _ _ _ h=>h) (Or.inl ⟨by kernel_rfl,?_⟩) ?_
    rotate_left
    ·intro w; go_simp
     all_goals with_reducible rfl
    refine wpAny_done (by kernel_rfl) ?_ _
    go_wp2
    go_ret
    rw [HR.out]
    exact ⟨_,rfl,HO4.out,HB4.out⟩
   ·
    go_simp
    try (refine hK _ _ ?_)
    try (clear hK K)
    refine wpAny_ready (rs:=[2]) (by kernel_rfl) (by simp) ?_
    refine AllReady.cons rfl (fun K hK=>?_) (AllReady.nil)
    go_simp
    go_wp2_with (go_at_call 91; refine (refNum_any t _).mono ?_; rw [HN1.out]; rintro e w2 ⟨v2,rfl,hown2,hb2⟩; have HO2:=Hi (hown2.base (show w.heap.size≤w1.drew.heap.size from Nat.le_of_lt hl1)); have HB2:=Hi (HB1.out.trans (hb2.mono HB1.out.size)); have y1:=(HTW.out.kept hb2).cell1; clear hown2 hb2)
    try (refine hK _ _ ?_)
    try (clear hK K)
    refine wpAny_ready (rs:=[5]) (by kernel_rfl) (by simp) ?_
    refine AllReady.cons rfl (fun K hK=>?_) (AllReady.nil)
    go_simp
    go_wp2_with (go_at_call 91; refine (refNum_any r _).mono ?_; rw [HN2.out]; rintro e w3 ⟨v3,rfl,hown3,hb3⟩; obtain ⟨p3,k3,rfl,hbs3,-,-,hpn3,-⟩:=hown3.bs; have HO3:=Hi (HO2.out.below hb3); have HBS:=Hi hbs3; have HB3:=Hi (HB2.out.trans (hb3.mono HB2.out.size)); have hs3:w.heap.size≤w3.heap.size:=HB3.out.size; clear hown3 hbs3 hb3)
    try (refine hK _ _ ?_)
    try (clear hK K)
    refine wpAny_ready (rs:=[6]) (by kernel_rfl) (by simp) ?_
    refine AllReady.cons rfl (fun K hK=>?_) (AllReady.nil)
    refine step_append_bs (by kernel_rfl) _ _ 103 rfl w.heap.size 5 i0 Tryz.underlying103 hi hz0 hz1 hz2 _ x rfl HO3.out p3 k3 y rfl HBS.out hpn3 (by omega) hs3 ?_
    intro v4 w4 hown4 hbel4
    have HO4:=Hi hown4
    have HB4:=Hi (HB3.out.trans hbel4)
    clear hown4 hbel4
    refine hK _ _ ?_
    clear hK K
    refine wpAny_take (i:=7) (v:=?_) rfl (by kernel_rfl) (by kernel_rfl) (by kernel_rfl) (fun _ _ _ h=>h) (Or.inl ⟨by kernel_rfl,?_⟩) ?_
    rotate_left
    ·intro w; go_simp
     all_goals with_reducible rfl
    refine wpAny_done (by kernel_rfl) ?_ _
    go_wp2
    go_ret
    rw [HR.out]
    exact ⟨_,rfl,HO4.out,HB4.out⟩
  ·
   go_simp
   try (refine hK _ _ ?_)
   try (clear hK K)
   refine wpAny_ready (rs:=[1]) (by kernel_rfl) (by simp) ?_
   refine AllReady.cons rfl (fun K hK=>?_) (AllReady.nil)
   go_simp
   try (refine hK _ _ ?_)
   try (clear hK K)
   refine wpAny_ready (rs:=[2]) (by kernel_rfl) (by simp) ?_
   refine AllReady.cons rfl (fun K hK=>?_) (AllReady.nil)
   go_simp
   go_wp2_with (go_at_call 91; refine (refNum_any t _).mono ?_; rw [HN1.out]; rintro e w2 ⟨v2,rfl,hown2,hb2⟩; have HO2:=Hi (hown2.base (show w.heap.size≤w1.drew.heap.size from Nat.le_of_lt hl1)); have HB2:=Hi (HB1.out.trans (hb2.mono HB1.out.size)); have y1:=(HTW.out.kept hb2).cell1; clear hown2 hb2)
   try (refine hK _ _ ?_)
   try (clear hK K)
   refine wpAny_ready (rs:=[5]) (by kernel_rfl) (by simp) ?_
   refine AllReady.cons rfl (fun K hK=>?_) (AllReady.nil)
   go_simp
   go_wp2_with (go_at_call 91; refine (refNum_any r _).mono ?_; rw [HN2.out]; rintro e w3 ⟨v3,rfl,hown3,hb3⟩; obtain ⟨p3,k3,rfl,hbs3,-,-,hpn3,-⟩:=hown3.bs; have HO3:=Hi (HO2.out.below hb3); have HBS:=Hi hbs3; have HB3:=Hi (HB2.out.trans (hb3.mono HB2.out.size)); have hs3:w.heap.size≤w3.heap.size:=HB3.out.size; clear hown3 hbs3 hb3)
   try (refine hK _ _ ?_)
   try (clear hK K)
   refine wpAny_ready (rs:=[6]) (by kernel_rfl) (by simp) ?_
   refine AllReady.cons rfl (fun K hK=>?_) (AllReady.nil)
   refine step_append_bs (by kernel_rfl) _ _ 103 rfl w.heap.size 5 i0 Tryz.underlying103 hi hz0 hz1 hz2 _ x rfl HO3.out p3 k3 y rfl HBS.out hpn3 (by omega) hs3 ?_
   intro v4 w4 hown4 hbel4
   have HO4:=Hi hown4
   have HB4:=Hi (HB3.out.trans hbel4)
   clear hown4 hbel4
   refine hK _ _ ?_
   clear hK K
   refine wpAny_take (i:=7) (v:=?_) rfl (by kernel_rfl) (by kernel_rfl) (by kernel_rfl) (fun _ _ _ h=>h) (Or.inl ⟨by kernel_rfl,?_⟩) ?_
   rotate_left
   ·intro w; go_simp
    all_goals with_reducible rfl
   refine wpAny_done (by kernel_rfl) ?_ _
   go_wp2
   go_ret
   rw [HR.out]
   exact ⟨_,rfl,HO4.out,HB4.out⟩
theorem refVput_any (k n:Int) (t:ByteArray) (w:World) (ht:t.size≤4611686018427387904):Calls Tryz.prog 113 #[.agg #[.int .i64 k,.int .i64 n,.string t]] w (MadeB 5 w (putV k n t.data.toList).1):=by
 obtain ⟨i0,hi,hz0,hz1,hz2⟩:=info_parts info_u8
 have HB:=Hi ((Below.refl w.heap.size w).alloc (Nat.le_refl _) (.cells #[.int .i64 k,.int .i64 n,.string t] 53))
 have HT:=Hi (ThreeAt.start w k n t)
 have HRT:=Hi (fun W=>refVRight_any k n t W ht)
 cases hR:Vm.rightV k n t.data.toList with
 | false =>
  have HR:=Hi (show putV k n t.data.toList=([],1) by unfold putV; rw [if_neg (by simp [hR])])
  have HRB:=Hi hR
  clear hR
  go_enter Tryz.func113,Tryz.ntmps113
  go_wp2_with fail
  refine (HRT.out _).mono ?_
  rw [HRB.out]
  rintro e w1 ⟨rfl,hb1⟩
  have HB1:=Hi (HB.out.trans (hb1.mono HB.out.size))
  clear hb1
  go_wp2
  go_ret
  rw [HR.out]
  exact ⟨_,rfl,Own.nil _ _ _,HB1.out⟩
 | true =>
  have HR:=Hi (show putV k n t.data.toList=(Wm.numB k.toNat ++ restV k n t.data.toList,0) by unfold putV; rw [if_pos hR])
  have HRB:=Hi hR
  have HK:=Hi (right_kind hR)
  have hk:=right_kind hR
  have HN1:=Hi (show (numW k).1=Wm.numB k.toNat by unfold numW; rw [if_pos (by omega)])
  have s1:=numB_small k.toNat
  have HNM:=Hi (fun hk=>right_num hR hk)
  have HTX:=Hi (fun (hk:k=3)=>right_text (t:=t.data.toList) (n:=n) (hk ▸ hR))
  have HFL:=Hi (fun (hk:k=4)=>right_flag (t:=t.data.toList) (n:=n) (hk ▸ hR))
  have HRV:Hid (restV k n t.data.toList=if k=3 then Wm.numB t.data.toList.length ++ t.data.toList else if k=4 then Wm.numB n.toNat else if k=0 then [] else Wm.numB (foldV n)):=Hi rfl
  generalize Wm.numB k.toNat=x at *
  generalize restV k n t.data.toList=y at *
  clear hR hk
  rcases HK.out with rfl | rfl | rfl | rfl | rfl
  ·obtain rfl:y=[]:=by have h:=HRV.out; rw [if_neg (by decide),if_neg (by decide),if_pos rfl] at h; exact h
   go_enter Tryz.func113,Tryz.ntmps113
   go_wp2_with fail
   refine (HRT.out _).mono ?_
   rw [HRB.out]
   rintro e w1 ⟨rfl,hb1⟩
   have HT1:=Hi (HT.out.kept hb1)
   have HB1:=Hi (HB.out.trans (hb1.mono HB.out.size))
   have x0:=HT1.out.cell0
   clear hb1
   go_wp2_with fail
   refine (refNum_any 0 _).mono ?_
   rw [HN1.out]
   rintro e w2 ⟨v2,rfl,hown2,hb2⟩
   have HT2:=Hi (HT1.out.kept hb2)
   have HB2:=Hi (HB1.out.trans (hb2.mono HB1.out.size))
   have hs1:=HT1.out.size
   have HO2:=Hi hown2
   obtain ⟨p2,k2,rfl,-⟩:=hown2.bs
   have hs2:=hb2.size
   clear hown2 hb2 x0
   have x0:=HT2.out.cell0
   have x1:=HT2.out.cell1
   have x2:=HT2.out.cell2
   go_wp2
   go_ret
   rw [HR.out]
   exact ⟨_,rfl,(show Own 5 w2 w.heap.size _ (x ++ []) by rw [List.append_nil]; exact HO2.out.base (Nat.le_of_lt hs1)),HB2.out⟩
  ·obtain ⟨n0,n1⟩:=HNM.out (by simp)
   have hf:=foldV_le n n0 n1
   obtain rfl:y=Wm.numB (foldV n):=by have h:=HRV.out; rw [if_neg (by decide),if_neg (by decide),if_neg (by decide)] at h; exact h
   have s2:=numB_small (foldV n)
   by_cases hn:n<0
   ·have HN2:=Hi (show (numW (-2 * n - 1)).1=Wm.numB (foldV n) by unfold numW foldV; rw [if_pos (by omega),if_pos hn])
    generalize Wm.numB (foldV n)=y at *
    have d0:decide (0≤n)=false:=decide_eq_false (by omega)
    clear hf
    go_enter Tryz.func113,Tryz.ntmps113
    go_wp2_with fail
    refine (HRT.out _).mono ?_
    rw [HRB.out]
    rintro e w1 ⟨rfl,hb1⟩
    have HT1:=Hi (HT.out.kept hb1)
    have HB1:=Hi (HB.out.trans (hb1.mono HB.out.size))
    have x0:=HT1.out.cell0
    clear hb1
    go_wp2_with fail
    refine (refNum_any 1 _).mono ?_
    rw [HN1.out]
    rintro e w2 ⟨v2,rfl,hown2,hb2⟩
    have HT2:=Hi (HT1.out.kept hb2)
    have HB2:=Hi (HB1.out.trans (hb2.mono HB1.out.size))
    have hs1:=HT1.out.size
    have HO2:=Hi hown2
    obtain ⟨p2,k2,rfl,-⟩:=hown2.bs
    have hs2:=hb2.size
    clear hown2 hb2 x0
    have x0:=HT2.out.cell0
    have x1:=HT2.out.cell1
    have x2:=HT2.out.cell2
    go_wp2_with fail
    refine (refNum_any (-2 * n - 1) _).mono ?_
    rw [HN2.out]
    rintro e w3 ⟨v3,rfl,hown3,hb3⟩
    obtain ⟨p3,k3,rfl,hbs3,-,-,hpn3,-⟩:=hown3.bs
    have HO3:=Hi (HO2.out.below hb3)
    have HBS:=Hi hbs3
    have HB3:=Hi (HB2.out.trans (hb3.mono HB2.out.size))
    have hs3:w.heap.size≤w3.heap.size:=HB3.out.size
    clear hown3 hbs3 hb3 x0 x1 x2
    go_wp2_with (at_builtin; refine wpList_append_bs rfl _ _ 103 rfl w.heap.size 5 i0 Tryz.underlying103 hi hz0 hz1 hz2 _ x rfl (HO3.out.base (Nat.le_of_lt hs1)) p3 k3 y rfl HBS.out hpn3 ?b0 ?b1 ?_)
    case b0=>omega
    case b1=>omega
    intro v4 w4 hown4 hbel4 hgrow4 hnil4
    clear hgrow4 hnil4
    have HO4:=Hi (show Own 5 w4 w.heap.size v4 (x ++ y) from hown4)
    have HB4:=Hi (HB3.out.trans hbel4)
    clear hown4 hbel4
    go_wp2
    go_ret
    rw [HR.out]
    exact ⟨_,rfl,HO4.out,HB4.out⟩
   ·have HN2:=Hi (show (numW (2 * n)).1=Wm.numB (foldV n) by unfold numW foldV; rw [if_pos (by omega),if_neg hn])
    generalize Wm.numB (foldV n)=y at *
    have d0:0≤n:=by omega
    clear hf hn
    go_enter Tryz.func113,Tryz.ntmps113
    go_wp2_with fail
    refine (HRT.out _).mono ?_
    rw [HRB.out]
    rintro e w1 ⟨rfl,hb1⟩
    have HT1:=Hi (HT.out.kept hb1)
    have HB1:=Hi (HB.out.trans (hb1.mono HB.out.size))
    have x0:=HT1.out.cell0
    clear hb1
    go_wp2_with fail
    refine (refNum_any 1 _).mono ?_
    rw [HN1.out]
    rintro e w2 ⟨v2,rfl,hown2,hb2⟩
    have HT2:=Hi (HT1.out.kept hb2)
    have HB2:=Hi (HB1.out.trans (hb2.mono HB1.out.size))
    have hs1:=HT1.out.size
    have HO2:=Hi hown2
    obtain ⟨p2,k2,rfl,-⟩:=hown2.bs
    have hs2:=hb2.size
    clear hown2 hb2 x0
    have x0:=HT2.out.cell0
    have x1:=HT2.out.cell1
    have x2:=HT2.out.cell2
    go_wp2_with fail
    refine (refNum_any (2 * n) _).mono ?_
    rw [HN2.out]
    rintro e w3 ⟨v3,rfl,hown3,hb3⟩
    obtain ⟨p3,k3,rfl,hbs3,-,-,hpn3,-⟩:=hown3.bs
    have HO3:=Hi (HO2.out.below hb3)
    have HBS:=Hi hbs3
    have HB3:=Hi (HB2.out.trans (hb3.mono HB2.out.size))
    have hs3:w.heap.size≤w3.heap.size:=HB3.out.size
    clear hown3 hbs3 hb3 x0 x1 x2
    go_wp2_with (at_builtin; refine wpList_append_bs rfl _ _ 103 rfl w.heap.size 5 i0 Tryz.underlying103 hi hz0 hz1 hz2 _ x rfl (HO3.out.base (Nat.le_of_lt hs1)) p3 k3 y rfl HBS.out hpn3 ?b0 ?b1 ?_)
    case b0=>omega
    case b1=>omega
    intro v4 w4 hown4 hbel4 hgrow4 hnil4
    clear hgrow4 hnil4
    have HO4:=Hi (show Own 5 w4 w.heap.size v4 (x ++ y) from hown4)
    have HB4:=Hi (HB3.out.trans hbel4)
    clear hown4 hbel4
    go_wp2
    go_ret
    rw [HR.out]
    exact ⟨_,rfl,HO4.out,HB4.out⟩
  ·obtain ⟨n0,n1⟩:=HNM.out (by simp)
   have hf:=foldV_le n n0 n1
   obtain rfl:y=Wm.numB (foldV n):=by have h:=HRV.out; rw [if_neg (by decide),if_neg (by decide),if_neg (by decide)] at h; exact h
   have s2:=numB_small (foldV n)
   by_cases hn:n<0
   ·have HN2:=Hi (show (numW (-2 * n - 1)).1=Wm.numB (foldV n) by unfold numW foldV; rw [if_pos (by omega),if_pos hn])
    generalize Wm.numB (foldV n)=y at *
    have d0:decide (0≤n)=false:=decide_eq_false (by omega)
    clear hf
    go_enter Tryz.func113,Tryz.ntmps113
    go_wp2_with fail
    refine (HRT.out _).mono ?_
    rw [HRB.out]
    rintro e w1 ⟨rfl,hb1⟩
    have HT1:=Hi (HT.out.kept hb1)
    have HB1:=Hi (HB.out.trans (hb1.mono HB.out.size))
    have x0:=HT1.out.cell0
    clear hb1
    go_wp2_with fail
    refine (refNum_any 2 _).mono ?_
    rw [HN1.out]
    rintro e w2 ⟨v2,rfl,hown2,hb2⟩
    have HT2:=Hi (HT1.out.kept hb2)
    have HB2:=Hi (HB1.out.trans (hb2.mono HB1.out.size))
    have hs1:=HT1.out.size
    have HO2:=Hi hown2
    obtain ⟨p2,k2,rfl,-⟩:=hown2.bs
    have hs2:=hb2.size
    clear hown2 hb2 x0
    have x0:=HT2.out.cell0
    have x1:=HT2.out.cell1
    have x2:=HT2.out.cell2
    go_wp2_with fail
    refine (refNum_any (-2 * n - 1) _).mono ?_
    rw [HN2.out]
    rintro e w3 ⟨v3,rfl,hown3,hb3⟩
    obtain ⟨p3,k3,rfl,hbs3,-,-,hpn3,-⟩:=hown3.bs
    have HO3:=Hi (HO2.out.below hb3)
    have HBS:=Hi hbs3
    have HB3:=Hi (HB2.out.trans (hb3.mono HB2.out.size))
    have hs3:w.heap.size≤w3.heap.size:=HB3.out.size
    clear hown3 hbs3 hb3 x0 x1 x2
    go_wp2_with (at_builtin; refine wpList_append_bs rfl _ _ 103 rfl w.heap.size 5 i0 Tryz.underlying103 hi hz0 hz1 hz2 _ x rfl (HO3.out.base (Nat.le_of_lt hs1)) p3 k3 y rfl HBS.out hpn3 ?b0 ?b1 ?_)
    case b0=>omega
    case b1=>omega
    intro v4 w4 hown4 hbel4 hgrow4 hnil4
    clear hgrow4 hnil4
    have HO4:=Hi (show Own 5 w4 w.heap.size v4 (x ++ y) from hown4)
    have HB4:=Hi (HB3.out.trans hbel4)
    clear hown4 hbel4
    go_wp2
    go_ret
    rw [HR.out]
    exact ⟨_,rfl,HO4.out,HB4.out⟩
   ·have HN2:=Hi (show (numW (2 * n)).1=Wm.numB (foldV n) by unfold numW foldV; rw [if_pos (by omega),if_neg hn])
    generalize Wm.numB (foldV n)=y at *
    have d0:0≤n:=by omega
    clear hf hn
    go_enter Tryz.func113,Tryz.ntmps113
    go_wp2_with fail
    refine (HRT.out _).mono ?_
    rw [HRB.out]
    rintro e w1 ⟨rfl,hb1⟩
    have HT1:=Hi (HT.out.kept hb1)
    have HB1:=Hi (HB.out.trans (hb1.mono HB.out.size))
    have x0:=HT1.out.cell0
    clear hb1
    go_wp2_with fail
    refine (refNum_any 2 _).mono ?_
    rw [HN1.out]
    rintro e w2 ⟨v2,rfl,hown2,hb2⟩
    have HT2:=Hi (HT1.out.kept hb2)
    have HB2:=Hi (HB1.out.trans (hb2.mono HB1.out.size))
    have hs1:=HT1.out.size
    have HO2:=Hi hown2
    obtain ⟨p2,k2,rfl,-⟩:=hown2.bs
    have hs2:=hb2.size
    clear hown2 hb2 x0
    have x0:=HT2.out.cell0
    have x1:=HT2.out.cell1
    have x2:=HT2.out.cell2
    go_wp2_with fail
    refine (refNum_any (2 * n) _).mono ?_
    rw [HN2.out]
    rintro e w3 ⟨v3,rfl,hown3,hb3⟩
    obtain ⟨p3,k3,rfl,hbs3,-,-,hpn3,-⟩:=hown3.bs
    have HO3:=Hi (HO2.out.below hb3)
    have HBS:=Hi hbs3
    have HB3:=Hi (HB2.out.trans (hb3.mono HB2.out.size))
    have hs3:w.heap.size≤w3.heap.size:=HB3.out.size
    clear hown3 hbs3 hb3 x0 x1 x2
    go_wp2_with (at_builtin; refine wpList_append_bs rfl _ _ 103 rfl w.heap.size 5 i0 Tryz.underlying103 hi hz0 hz1 hz2 _ x rfl (HO3.out.base (Nat.le_of_lt hs1)) p3 k3 y rfl HBS.out hpn3 ?b0 ?b1 ?_)
    case b0=>omega
    case b1=>omega
    intro v4 w4 hown4 hbel4 hgrow4 hnil4
    clear hgrow4 hnil4
    have HO4:=Hi (show Own 5 w4 w.heap.size v4 (x ++ y) from hown4)
    have HB4:=Hi (HB3.out.trans hbel4)
    clear hown4 hbel4
    go_wp2
    go_ret
    rw [HR.out]
    exact ⟨_,rfl,HO4.out,HB4.out⟩
  ·obtain ⟨rfl,hl⟩:=HTX.out rfl
   obtain rfl:y=Wm.numB t.data.toList.length ++ t.data.toList:=by have h:=HRV.out; rw [if_pos rfl] at h; exact h
   have s2:=numB_small t.data.toList.length
   have HN2:=Hi (show (textW t.data.toList).1=Wm.numB t.data.toList.length ++ t.data.toList by unfold textW; rw [if_pos (by omega)])
   have s3:(Wm.numB t.data.toList.length ++ t.data.toList).length≤100:=by rw [List.length_append]; omega
   have hts:t.size≤64:=by rw [← str_len]; exact hl
   generalize Wm.numB t.data.toList.length ++ t.data.toList=y at *
   clear hl s2
   go_enter Tryz.func113,Tryz.ntmps113
   go_wp2_with fail
   refine (HRT.out _).mono ?_
   rw [HRB.out]
   rintro e w1 ⟨rfl,hb1⟩
   have HT1:=Hi (HT.out.kept hb1)
   have HB1:=Hi (HB.out.trans (hb1.mono HB.out.size))
   have x0:=HT1.out.cell0
   clear hb1
   go_wp2_with fail
   refine (refNum_any 3 _).mono ?_
   rw [HN1.out]
   rintro e w2 ⟨v2,rfl,hown2,hb2⟩
   have HT2:=Hi (HT1.out.kept hb2)
   have HB2:=Hi (HB1.out.trans (hb2.mono HB1.out.size))
   have hs1:=HT1.out.size
   have HO2:=Hi hown2
   obtain ⟨p2,k2,rfl,-⟩:=hown2.bs
   have hs2:=hb2.size
   clear hown2 hb2 x0
   have x0:=HT2.out.cell0
   have x1:=HT2.out.cell1
   have x2:=HT2.out.cell2
   go_wp2_with fail
   refine (refText_any t _ (by unfold maxLen; omega)).mono ?_
   rw [HN2.out]
   rintro e w3 ⟨v3,rfl,hown3,hb3⟩
   obtain ⟨p3,k3,rfl,hbs3,-,-,hpn3,-⟩:=hown3.bs
   have HO3:=Hi (HO2.out.below hb3)
   have HBS:=Hi hbs3
   have HB3:=Hi (HB2.out.trans (hb3.mono HB2.out.size))
   have hs3:w.heap.size≤w3.heap.size:=HB3.out.size
   clear hown3 hbs3 hb3 x0 x1 x2
   go_wp2_with (at_builtin; refine wpList_append_bs rfl _ _ 103 rfl w.heap.size 5 i0 Tryz.underlying103 hi hz0 hz1 hz2 _ x rfl (HO3.out.base (Nat.le_of_lt hs1)) p3 k3 y rfl HBS.out hpn3 ?b0 ?b1 ?_)
   case b0=>omega
   case b1=>omega
   intro v4 w4 hown4 hbel4 hgrow4 hnil4
   clear hgrow4 hnil4
   have HO4:=Hi (show Own 5 w4 w.heap.size v4 (x ++ y) from hown4)
   have HB4:=Hi (HB3.out.trans hbel4)
   clear hown4 hbel4
   go_wp2
   go_ret
   rw [HR.out]
   exact ⟨_,rfl,HO4.out,HB4.out⟩
  ·have hfl:=HFL.out rfl
   obtain rfl:y=Wm.numB n.toNat:=by have h:=HRV.out; rw [if_neg (by decide),if_pos rfl] at h; exact h
   have s2:=numB_small n.toNat
   have HN2:=Hi (show (numW n).1=Wm.numB n.toNat by unfold numW; rw [if_pos (by omega)])
   generalize Wm.numB n.toNat=y at *
   clear hfl
   go_enter Tryz.func113,Tryz.ntmps113
   go_wp2_with fail
   refine (HRT.out _).mono ?_
   rw [HRB.out]
   rintro e w1 ⟨rfl,hb1⟩
   have HT1:=Hi (HT.out.kept hb1)
   have HB1:=Hi (HB.out.trans (hb1.mono HB.out.size))
   have x0:=HT1.out.cell0
   clear hb1
   go_wp2_with fail
   refine (refNum_any 4 _).mono ?_
   rw [HN1.out]
   rintro e w2 ⟨v2,rfl,hown2,hb2⟩
   have HT2:=Hi (HT1.out.kept hb2)
   have HB2:=Hi (HB1.out.trans (hb2.mono HB1.out.size))
   have hs1:=HT1.out.size
   have HO2:=Hi hown2
   obtain ⟨p2,k2,rfl,-⟩:=hown2.bs
   have hs2:=hb2.size
   clear hown2 hb2 x0
   have x0:=HT2.out.cell0
   have x1:=HT2.out.cell1
   have x2:=HT2.out.cell2
   go_wp2_with fail
   refine (refNum_any n _).mono ?_
   rw [HN2.out]
   rintro e w3 ⟨v3,rfl,hown3,hb3⟩
   obtain ⟨p3,k3,rfl,hbs3,-,-,hpn3,-⟩:=hown3.bs
   have HO3:=Hi (HO2.out.below hb3)
   have HBS:=Hi hbs3
   have HB3:=Hi (HB2.out.trans (hb3.mono HB2.out.size))
   have hs3:w.heap.size≤w3.heap.size:=HB3.out.size
   clear hown3 hbs3 hb3 x0 x1 x2
   go_wp2_with (at_builtin; refine wpList_append_bs rfl _ _ 103 rfl w.heap.size 5 i0 Tryz.underlying103 hi hz0 hz1 hz2 _ x rfl (HO3.out.base (Nat.le_of_lt hs1)) p3 k3 y rfl HBS.out hpn3 ?b0 ?b1 ?_)
   case b0=>omega
   case b1=>omega
   intro v4 w4 hown4 hbel4 hgrow4 hnil4
   clear hgrow4 hnil4
   have HO4:=Hi (show Own 5 w4 w.heap.size v4 (x ++ y) from hown4)
   have HB4:=Hi (HB3.out.trans hbel4)
   clear hown4 hbel4
   go_wp2
   go_ret
   rw [HR.out]
   exact ⟨_,rfl,HO4.out,HB4.out⟩
structure RpO (w0:World) (x:Opp) (q:Option Addr) (c:Nat) (v:Value) (l:List UInt8) (w:World):Prop where
 op:OpAt w w0.heap.size x q c
 pa:Pa w x q c
 below:Below w0.heap.size w0 w
 own:Own 5 w (w0.heap.size+1) v l
theorem RpO.kept {w0 w w':World} {x:Opp} {q:Option Addr} {c:Nat} {v:Value} {l:List UInt8} (h:RpO w0 x q c v l w) (hb:Below w.heap.size w w'):RpO w0 x q c v l w' :=
 ⟨h.op.kept hb,h.pa.kept hb,h.below.trans (hb.mono h.below.size),Own.below h.own hb⟩
theorem RpO.app {w0 w w':World} {x:Opp} {q:Option Addr} {c:Nat} {v v':Value} {l l':List UInt8} (h:RpO w0 x q c v l w) (hp:Pa w0 x q c) (ho:Own 5 w' (w0.heap.size+1) v' l') (hb:Below (w0.heap.size+1) w w'):RpO w0 x q c v' l' w':=by
 have hbw:=h.below.trans (hb.mono (Nat.le_succ _))
 exact ⟨h.op.below hb (Nat.lt_succ_self _),hp.kept hbw,hbw,ho⟩
theorem RpO.le {w0 w:World} {x:Opp} {q:Option Addr} {c:Nat} {v:Value} {l:List UInt8} (h:RpO w0 x q c v l w):w0.heap.size+1≤w.heap.size:=h.op.lt
theorem putW_one {t r:Int} (h:rightB t r=true):(putW t r).1=stB t r:=by rw [putW_ok h]
theorem textW_one {s:ByteArray} (h:s.size≤1048576):(textW s.data.toList).1=txB s:=by rw [textW_ok h]
theorem putV_one {k n:Int} {t:ByteArray} (h:Vm.rightV k n t.data.toList=true):(putV k n t.data.toList).1=vlB k n t:=by rw [putV_ok h]
theorem numW_one {n:Int} (h0:0≤n) (h1:n≤281474976710655):(numW n).1=Wm.numB n.toNat:=by rw [numW_ok h0 h1]
theorem tailB1 {x:Opp} (h:x.k=1):tailB x=stB x.rt x.rr ++ txB x.key:=by
 unfold tailB
 simp [h]
theorem tailB2 {x:Opp} (h:x.k=2):tailB x=stB x.nt x.nr ++ stB x.rt x.rr ++ txB x.key:=by
 unfold tailB
 simp [h]
theorem tailB3 {x:Opp} (h:x.k=3):tailB x=stB x.nt x.nr ++ Wm.numB x.p.toNat ++ vlB x.vk x.vn x.vt:=by
 unfold tailB
 simp [h]
theorem tailB4 {x:Opp} (h:x.k=4):tailB x=stB x.nt x.nr ++ Wm.numB (digO x.on):=by
 unfold tailB
 simp [h]
theorem tailB5 {x:Opp} (h:x.k=5):tailB x=stB x.nt x.nr ++ stB x.rt x.rr:=by
 unfold tailB
 simp [h]
theorem tailB6 {x:Opp} (h:x.k=6):tailB x=stB x.nt x.nr ++ Wm.numB x.path.length ++ paB x.path ++ Wm.numB x.p.toNat ++ vlB x.vk x.vn x.vt:=by
 unfold tailB
 simp [h]
theorem rput1_any (x:Opp) (q:Option Addr) (c:Nat) (w:World) (hs:Sz x) (ha:Pa w x q c) (hk:x.k=1) (hr:rightO x=true):Calls Tryz.prog 92 #[.agg (opA x q c)] w (MadeB 5 w (opB x)):=by
 obtain ⟨i0,hi,hz0,hz1,hz2⟩:=info_parts info_u8
 have HOB:=Hi (show opB x=Wm.numB x.k.toNat ++ tailB x from rfl)
 have HSK:=Hi (show x.key.size≤140737488355328 from hs.key)
 have HSV:=Hi (show x.vt.size≤4611686018427387904 from hs.val)
 have HK:=Hi hk
 have HRI:=Hi hr
 have HPA0:=Hi ha
 have HX:=Hi (OpAt.new w x q c 89)
 have HB:=Hi ((Below.refl w.heap.size w).alloc (Nat.le_refl _) (.cells (opA x q c) 89))
 have HRR:=Hi (rright_any x q c _ hs (ha.kept HB.out))
 have HTB:=Hi (show tailB x=_ from tailB1 hk)
 have HNM:=Hi (fun W=>refNum_any 1 W)
 rw [show (numW 1).1=Wm.numB 1 from numW_one (by decide) (by decide)] at HNM
 have l0:=numB_small 1
 rw [hk] at HOB
 change Hid (opB x=Wm.numB 1 ++ tailB x) at HOB
 rw [HTB.out] at HOB
 clear HTB
 generalize Wm.numB 1=m0 at *
 obtain ⟨f1,f2,-⟩:=right1 hr hk
 have HCR:=Hi (fun W=>refPut_any x.rt x.rr W)
 rw [putW_one f1] at HCR
 have lR:=stB_len x.rt x.rr
 generalize stB x.rt x.rr=mR at *
 have HCK:=Hi (fun W=>(fun W=>refText_any x.key W (by have:=HSK.out; unfold maxLen; omega)) W)
 rw [textW_one (by have:=key_small f2; omega)] at HCK
 have lK:=txB_len (key_small f2)
 generalize txB x.key=mK at *
 have hx:=HX.out
 clear hk hr ha hs
 go_enter Tryz.func92,Tryz.ntmps92
 go_wp2_with (refine wpList_load_op otR rfl _ rfl _ rfl _ _ _ (by assumption) ?_)
 refine HRR.out.mono ?_
 rw [HRI.out]
 rintro e w1 ⟨rfl,hb1⟩
 replace HX:=Hi (HX.out.kept hb1)
 replace HB:=Hi (HB.out.trans (hb1.mono HB.out.size))
 clear hb1 hx
 obtain ⟨x0,x1,x2,x3,x4,x5,x6,x7,x8,x9,x10,x11⟩:=HX.out.cells
 rw [HK.out] at x0
 go_wp2_with fail
 refine (HNM.out _).mono ?_
 rintro e w2 ⟨v2,rfl,hown,hb2⟩
 have T:=Hi (show RpO w x q c v2 m0 w2 from ⟨HX.out.kept hb2,HPA0.out.kept (HB.out.trans (hb2.mono HB.out.size)),HB.out.trans (hb2.mono HB.out.size),hown.base HX.out.lt⟩)
 clear hown hb2 HX HB x0 x1 x2 x3 x4 x5 x6 x7 x8 x9 x10 x11
 obtain ⟨pb,kb,rfl,-⟩:=T.out.own.bs
 obtain ⟨x0,x1,x2,x3,x4,x5,x6,x7,x8,x9,x10,x11⟩:=T.out.op.cells
 rw [HK.out] at x0
 go_wp2_with fail
 refine (HCR.out _).mono ?_
 rintro e wa ⟨va,rfl,hown,hb⟩
 obtain ⟨pa,ka,rfl,hbs,-,-,hpn,-⟩:=hown.bs
 replace T:=Hi (T.out.kept hb)
 have HBS:=Hi hbs
 clear hown hbs hb x0 x1 x2 x3 x4 x5 x6 x7 x8 x9 x10 x11
 go_wp2_with (at_builtin; refine wpList_append_bs rfl _ _ 103 rfl (w.heap.size+1) 5 i0 Tryz.underlying103 hi hz0 hz1 hz2 _ m0 rfl T.out.own pa ka mR rfl HBS.out hpn ?b0 ?b1 ?_)
 case b0=>omega
 case b1=>exact T.out.le
 intro vb wb hown hbel hgrow hnil
 clear hgrow hnil hpn HBS
 have T2:=T.out.app HPA0.out hown hbel
 clear T
 have T:=Hi T2
 clear T2 hown hbel
 have lenL1:(m0 ++ mR).length≤21:=by rw [List.length_append]; omega
 generalize hgl:m0 ++ mR=L1 at *
 have HLL1:=Hi hgl
 clear hgl
 obtain ⟨pb,kb,rfl,-⟩:=T.out.own.bs
 obtain ⟨x0,x1,x2,x3,x4,x5,x6,x7,x8,x9,x10,x11⟩:=T.out.op.cells
 rw [HK.out] at x0
 go_wp2_with fail
 refine (HCK.out _).mono ?_
 rintro e wa ⟨va,rfl,hown,hb⟩
 obtain ⟨pa,ka,rfl,hbs,-,-,hpn,-⟩:=hown.bs
 replace T:=Hi (T.out.kept hb)
 have HBS:=Hi hbs
 clear hown hbs hb x0 x1 x2 x3 x4 x5 x6 x7 x8 x9 x10 x11
 go_wp2_with (at_builtin; refine wpList_append_bs rfl _ _ 103 rfl (w.heap.size+1) 5 i0 Tryz.underlying103 hi hz0 hz1 hz2 _ L1 rfl T.out.own pa ka mK rfl HBS.out hpn ?b0 ?b1 ?_)
 case b0=>omega
 case b1=>exact T.out.le
 intro vb wb hown hbel hgrow hnil
 clear hgrow hnil hpn HBS
 have T2:=T.out.app HPA0.out hown hbel
 clear T
 have T:=Hi T2
 clear T2 hown hbel
 have lenL2:(L1 ++ mK).length≤52:=by rw [List.length_append]; omega
 generalize hgl:L1 ++ mK=L2 at *
 have HLL2:=Hi hgl
 clear hgl
 obtain ⟨pb,kb,rfl,-⟩:=T.out.own.bs
 obtain ⟨x0,x1,x2,x3,x4,x5,x6,x7,x8,x9,x10,x11⟩:=T.out.op.cells
 rw [HK.out] at x0
 go_wp2
 go_ret
 have e:opB x=L2:=by rw [HOB.out,← HLL2.out,← HLL1.out]; simp only [List.append_assoc]
 rw [e]
 exact ⟨_,rfl,T.out.own.base (Nat.le_succ _),T.out.below⟩
theorem rput2_any (x:Opp) (q:Option Addr) (c:Nat) (w:World) (hs:Sz x) (ha:Pa w x q c) (hk:x.k=2) (hr:rightO x=true):Calls Tryz.prog 92 #[.agg (opA x q c)] w (MadeB 5 w (opB x)):=by
 obtain ⟨i0,hi,hz0,hz1,hz2⟩:=info_parts info_u8
 have HOB:=Hi (show opB x=Wm.numB x.k.toNat ++ tailB x from rfl)
 have HSK:=Hi (show x.key.size≤140737488355328 from hs.key)
 have HSV:=Hi (show x.vt.size≤4611686018427387904 from hs.val)
 have HK:=Hi hk
 have HRI:=Hi hr
 have HPA0:=Hi ha
 have HX:=Hi (OpAt.new w x q c 89)
 have HB:=Hi ((Below.refl w.heap.size w).alloc (Nat.le_refl _) (.cells (opA x q c) 89))
 have HRR:=Hi (rright_any x q c _ hs (ha.kept HB.out))
 have HTB:=Hi (show tailB x=_ from tailB2 hk)
 have HNM:=Hi (fun W=>refNum_any 2 W)
 rw [show (numW 2).1=Wm.numB 2 from numW_one (by decide) (by decide)] at HNM
 have l0:=numB_small 2
 rw [hk] at HOB
 change Hid (opB x=Wm.numB 2 ++ tailB x) at HOB
 rw [HTB.out] at HOB
 clear HTB
 generalize Wm.numB 2=m0 at *
 obtain ⟨f0,f1,f2,-⟩:=right2 hr hk
 have HCN:=Hi (fun W=>refPut_any x.nt x.nr W)
 rw [putW_one f0] at HCN
 have lN:=stB_len x.nt x.nr
 generalize stB x.nt x.nr=mN at *
 have HCR:=Hi (fun W=>refPut_any x.rt x.rr W)
 rw [putW_one f1] at HCR
 have lR:=stB_len x.rt x.rr
 generalize stB x.rt x.rr=mR at *
 have HCK:=Hi (fun W=>(fun W=>refText_any x.key W (by have:=HSK.out; unfold maxLen; omega)) W)
 rw [textW_one (by have:=key_small f2; omega)] at HCK
 have lK:=txB_len (key_small f2)
 generalize txB x.key=mK at *
 have hx:=HX.out
 clear hk hr ha hs
 go_enter Tryz.func92,Tryz.ntmps92
 go_wp2_with (refine wpList_load_op otR rfl _ rfl _ rfl _ _ _ (by assumption) ?_)
 refine HRR.out.mono ?_
 rw [HRI.out]
 rintro e w1 ⟨rfl,hb1⟩
 replace HX:=Hi (HX.out.kept hb1)
 replace HB:=Hi (HB.out.trans (hb1.mono HB.out.size))
 clear hb1 hx
 obtain ⟨x0,x1,x2,x3,x4,x5,x6,x7,x8,x9,x10,x11⟩:=HX.out.cells
 rw [HK.out] at x0
 go_wp2_with fail
 refine (HNM.out _).mono ?_
 rintro e w2 ⟨v2,rfl,hown,hb2⟩
 have T:=Hi (show RpO w x q c v2 m0 w2 from ⟨HX.out.kept hb2,HPA0.out.kept (HB.out.trans (hb2.mono HB.out.size)),HB.out.trans (hb2.mono HB.out.size),hown.base HX.out.lt⟩)
 clear hown hb2 HX HB x0 x1 x2 x3 x4 x5 x6 x7 x8 x9 x10 x11
 obtain ⟨pb,kb,rfl,-⟩:=T.out.own.bs
 obtain ⟨x0,x1,x2,x3,x4,x5,x6,x7,x8,x9,x10,x11⟩:=T.out.op.cells
 rw [HK.out] at x0
 go_wp2_with fail
 refine (HCN.out _).mono ?_
 rintro e wa ⟨va,rfl,hown,hb⟩
 obtain ⟨pa,ka,rfl,hbs,-,-,hpn,-⟩:=hown.bs
 replace T:=Hi (T.out.kept hb)
 have HBS:=Hi hbs
 clear hown hbs hb x0 x1 x2 x3 x4 x5 x6 x7 x8 x9 x10 x11
 go_wp2_with (at_builtin; refine wpList_append_bs rfl _ _ 103 rfl (w.heap.size+1) 5 i0 Tryz.underlying103 hi hz0 hz1 hz2 _ m0 rfl T.out.own pa ka mN rfl HBS.out hpn ?b0 ?b1 ?_)
 case b0=>omega
 case b1=>exact T.out.le
 intro vb wb hown hbel hgrow hnil
 clear hgrow hnil hpn HBS
 have T2:=T.out.app HPA0.out hown hbel
 clear T
 have T:=Hi T2
 clear T2 hown hbel
 have lenL1:(m0 ++ mN).length≤21:=by rw [List.length_append]; omega
 generalize hgl:m0 ++ mN=L1 at *
 have HLL1:=Hi hgl
 clear hgl
 obtain ⟨pb,kb,rfl,-⟩:=T.out.own.bs
 obtain ⟨x0,x1,x2,x3,x4,x5,x6,x7,x8,x9,x10,x11⟩:=T.out.op.cells
 rw [HK.out] at x0
 go_wp2_with fail
 refine (HCR.out _).mono ?_
 rintro e wa ⟨va,rfl,hown,hb⟩
 obtain ⟨pa,ka,rfl,hbs,-,-,hpn,-⟩:=hown.bs
 replace T:=Hi (T.out.kept hb)
 have HBS:=Hi hbs
 clear hown hbs hb x0 x1 x2 x3 x4 x5 x6 x7 x8 x9 x10 x11
 go_wp2_with (at_builtin; refine wpList_append_bs rfl _ _ 103 rfl (w.heap.size+1) 5 i0 Tryz.underlying103 hi hz0 hz1 hz2 _ L1 rfl T.out.own pa ka mR rfl HBS.out hpn ?b0 ?b1 ?_)
 case b0=>omega
 case b1=>exact T.out.le
 intro vb wb hown hbel hgrow hnil
 clear hgrow hnil hpn HBS
 have T2:=T.out.app HPA0.out hown hbel
 clear T
 have T:=Hi T2
 clear T2 hown hbel
 have lenL2:(L1 ++ mR).length≤35:=by rw [List.length_append]; omega
 generalize hgl:L1 ++ mR=L2 at *
 have HLL2:=Hi hgl
 clear hgl
 obtain ⟨pb,kb,rfl,-⟩:=T.out.own.bs
 obtain ⟨x0,x1,x2,x3,x4,x5,x6,x7,x8,x9,x10,x11⟩:=T.out.op.cells
 rw [HK.out] at x0
 go_wp2_with fail
 refine (HCK.out _).mono ?_
 rintro e wa ⟨va,rfl,hown,hb⟩
 obtain ⟨pa,ka,rfl,hbs,-,-,hpn,-⟩:=hown.bs
 replace T:=Hi (T.out.kept hb)
 have HBS:=Hi hbs
 clear hown hbs hb x0 x1 x2 x3 x4 x5 x6 x7 x8 x9 x10 x11
 go_wp2_with (at_builtin; refine wpList_append_bs rfl _ _ 103 rfl (w.heap.size+1) 5 i0 Tryz.underlying103 hi hz0 hz1 hz2 _ L2 rfl T.out.own pa ka mK rfl HBS.out hpn ?b0 ?b1 ?_)
 case b0=>omega
 case b1=>exact T.out.le
 intro vb wb hown hbel hgrow hnil
 clear hgrow hnil hpn HBS
 have T2:=T.out.app HPA0.out hown hbel
 clear T
 have T:=Hi T2
 clear T2 hown hbel
 have lenL3:(L2 ++ mK).length≤66:=by rw [List.length_append]; omega
 generalize hgl:L2 ++ mK=L3 at *
 have HLL3:=Hi hgl
 clear hgl
 obtain ⟨pb,kb,rfl,-⟩:=T.out.own.bs
 obtain ⟨x0,x1,x2,x3,x4,x5,x6,x7,x8,x9,x10,x11⟩:=T.out.op.cells
 rw [HK.out] at x0
 go_wp2
 go_ret
 have e:opB x=L3:=by rw [HOB.out,← HLL3.out,← HLL2.out,← HLL1.out]; simp only [List.append_assoc]
 rw [e]
 exact ⟨_,rfl,T.out.own.base (Nat.le_succ _),T.out.below⟩
theorem rput3_any (x:Opp) (q:Option Addr) (c:Nat) (w:World) (hs:Sz x) (ha:Pa w x q c) (hk:x.k=3) (hr:rightO x=true):Calls Tryz.prog 92 #[.agg (opA x q c)] w (MadeB 5 w (opB x)):=by
 obtain ⟨i0,hi,hz0,hz1,hz2⟩:=info_parts info_u8
 have HOB:=Hi (show opB x=Wm.numB x.k.toNat ++ tailB x from rfl)
 have HSK:=Hi (show x.key.size≤140737488355328 from hs.key)
 have HSV:=Hi (show x.vt.size≤4611686018427387904 from hs.val)
 have HK:=Hi hk
 have HRI:=Hi hr
 have HPA0:=Hi ha
 have HX:=Hi (OpAt.new w x q c 89)
 have HB:=Hi ((Below.refl w.heap.size w).alloc (Nat.le_refl _) (.cells (opA x q c) 89))
 have HRR:=Hi (rright_any x q c _ hs (ha.kept HB.out))
 have HTB:=Hi (show tailB x=_ from tailB3 hk)
 have HNM:=Hi (fun W=>refNum_any 3 W)
 rw [show (numW 3).1=Wm.numB 3 from numW_one (by decide) (by decide)] at HNM
 have l0:=numB_small 3
 rw [hk] at HOB
 change Hid (opB x=Wm.numB 3 ++ tailB x) at HOB
 rw [HTB.out] at HOB
 clear HTB
 generalize Wm.numB 3=m0 at *
 obtain ⟨f0,f3,-⟩:=right3 hr hk
 obtain ⟨p0,p1,hv8⟩:=right8_facts f3
 have HCN:=Hi (fun W=>refPut_any x.nt x.nr W)
 rw [putW_one f0] at HCN
 have lN:=stB_len x.nt x.nr
 generalize stB x.nt x.nr=mN at *
 have HCP:=Hi (fun W=>refNum_any x.p W)
 rw [numW_one (by omega) (by omega)] at HCP
 have lP:=numB_small x.p.toNat
 generalize Wm.numB x.p.toNat=mP at *
 have HCV:=Hi (fun W=>(fun W=>refVput_any x.vk x.vn x.vt W HSV.out) W)
 rw [putV_one hv8] at HCV
 have lV:=vlB_len hv8
 generalize vlB x.vk x.vn x.vt=mV at *
 have hx:=HX.out
 clear hk hr ha hs
 go_enter Tryz.func92,Tryz.ntmps92
 go_wp2_with (refine wpList_load_op otR rfl _ rfl _ rfl _ _ _ (by assumption) ?_)
 refine HRR.out.mono ?_
 rw [HRI.out]
 rintro e w1 ⟨rfl,hb1⟩
 replace HX:=Hi (HX.out.kept hb1)
 replace HB:=Hi (HB.out.trans (hb1.mono HB.out.size))
 clear hb1 hx
 obtain ⟨x0,x1,x2,x3,x4,x5,x6,x7,x8,x9,x10,x11⟩:=HX.out.cells
 rw [HK.out] at x0
 go_wp2_with fail
 refine (HNM.out _).mono ?_
 rintro e w2 ⟨v2,rfl,hown,hb2⟩
 have T:=Hi (show RpO w x q c v2 m0 w2 from ⟨HX.out.kept hb2,HPA0.out.kept (HB.out.trans (hb2.mono HB.out.size)),HB.out.trans (hb2.mono HB.out.size),hown.base HX.out.lt⟩)
 clear hown hb2 HX HB x0 x1 x2 x3 x4 x5 x6 x7 x8 x9 x10 x11
 obtain ⟨pb,kb,rfl,-⟩:=T.out.own.bs
 obtain ⟨x0,x1,x2,x3,x4,x5,x6,x7,x8,x9,x10,x11⟩:=T.out.op.cells
 rw [HK.out] at x0
 go_wp2_with fail
 refine (HCN.out _).mono ?_
 rintro e wa ⟨va,rfl,hown,hb⟩
 obtain ⟨pa,ka,rfl,hbs,-,-,hpn,-⟩:=hown.bs
 replace T:=Hi (T.out.kept hb)
 have HBS:=Hi hbs
 clear hown hbs hb x0 x1 x2 x3 x4 x5 x6 x7 x8 x9 x10 x11
 go_wp2_with (at_builtin; refine wpList_append_bs rfl _ _ 103 rfl (w.heap.size+1) 5 i0 Tryz.underlying103 hi hz0 hz1 hz2 _ m0 rfl T.out.own pa ka mN rfl HBS.out hpn ?b0 ?b1 ?_)
 case b0=>omega
 case b1=>exact T.out.le
 intro vb wb hown hbel hgrow hnil
 clear hgrow hnil hpn HBS
 have T2:=T.out.app HPA0.out hown hbel
 clear T
 have T:=Hi T2
 clear T2 hown hbel
 have lenL1:(m0 ++ mN).length≤21:=by rw [List.length_append]; omega
 generalize hgl:m0 ++ mN=L1 at *
 have HLL1:=Hi hgl
 clear hgl
 obtain ⟨pb,kb,rfl,-⟩:=T.out.own.bs
 obtain ⟨x0,x1,x2,x3,x4,x5,x6,x7,x8,x9,x10,x11⟩:=T.out.op.cells
 rw [HK.out] at x0
 go_wp2
 clear x0 x1 x2 x3 x4 x5 x6 x7 x8 x9 x10 x11
 have HS0:=Hi (show OpAt _ w.heap.size x q c from (T.out.kept (Below.drew (Below.refl _ _))).op)
 replace T:=Hi (T.out.kept (Below.drew (Below.refl _ _)))
 refine wp_region_held_drew (S:=(fun W=>OpAt W w.heap.size x q c)) (by kernel_rfl) HS0.out (fun hS=>?_)
 clear HS0
 refine tX 0 rfl hS ?_
 refine tX 1 rfl hS ?_
 refine tK 2 (v:=?_) rfl ?_ hS ?_
 rotate_left
 ·intro W hSW
  have x7:=hSW.cells.2.2.2.2.2.2.2.1
  go_simp
  all_goals with_reducible rfl
 go_simp
 refine tX 5 rfl hS ?_
 refine tK 6 (v:=?_) rfl ?_ hS ?_
 rotate_left
 ·intro W hSW
  have x8:=hSW.cells.2.2.2.2.2.2.2.2.1
  have x9:=hSW.cells.2.2.2.2.2.2.2.2.2.1
  have x10:=hSW.cells.2.2.2.2.2.2.2.2.2.2.1
  go_simp
  all_goals with_reducible rfl
 go_simp
 refine rD 3 rfl (fun K hK=>?_)
 go_simp
 go_wp2_with ((go_at_call 91; refine (HCP.out _).mono ?_; rintro e wa ⟨va,rfl,hown,hb⟩))
 obtain ⟨pa,ka,rfl,hbs,-,-,hpn,-⟩:=hown.bs
 replace T:=Hi (T.out.kept hb)
 have HBS:=Hi hbs
 have HPN:=Hi hpn
 clear hown hbs hb hpn
 refine hK.out _ _ T.out.op (fun hS=>?_)
 clear hK K
 refine rD 4 rfl (fun K hK=>?_)
 refine step_append_bs (by kernel_rfl) _ _ 103 rfl (w.heap.size+1) 5 i0 Tryz.underlying103 hi hz0 hz1 hz2 _ L1 rfl T.out.own pa ka mP rfl HBS.out HPN.out (by omega) T.out.le ?_
 intro vb wb hown hbel
 have T2:=T.out.app HPA0.out hown hbel
 clear T
 have T:=Hi T2
 clear T2 hown hbel HBS HPN
 have lenL2:(L1 ++ mP).length≤28:=by rw [List.length_append]; omega
 generalize hgl:L1 ++ mP=L2 at *
 have HLL2:=Hi hgl
 clear hgl
 obtain ⟨pb,kb,rfl,-⟩:=T.out.own.bs
 refine hK.out _ _ T.out.op (fun hS=>?_)
 clear hK K
 refine rD 7 rfl (fun K hK=>?_)
 go_simp
 go_wp2_with ((go_at_call 113; refine (HCV.out _).mono ?_; rintro e wa ⟨va,rfl,hown,hb⟩))
 obtain ⟨pa,ka,rfl,hbs,-,-,hpn,-⟩:=hown.bs
 replace T:=Hi (T.out.kept hb)
 have HBS:=Hi hbs
 have HPN:=Hi hpn
 clear hown hbs hb hpn
 refine hK.out _ _ T.out.op (fun hS=>?_)
 clear hK K
 refine rD 8 rfl (fun K hK=>?_)
 refine step_append_bs (by kernel_rfl) _ _ 103 rfl (w.heap.size+1) 5 i0 Tryz.underlying103 hi hz0 hz1 hz2 _ L2 rfl T.out.own pa ka mV rfl HBS.out HPN.out (by omega) T.out.le ?_
 intro vb wb hown hbel
 have T2:=T.out.app HPA0.out hown hbel
 clear T
 have T:=Hi T2
 clear T2 hown hbel HBS HPN
 have lenL3:(L2 ++ mV).length≤128:=by rw [List.length_append]; omega
 generalize hgl:L2 ++ mV=L3 at *
 have HLL3:=Hi hgl
 clear hgl
 obtain ⟨pb,kb,rfl,-⟩:=T.out.own.bs
 refine hK.out _ _ T.out.op (fun hS=>?_)
 clear hK K
 refine tX 9 rfl hS ?_
 go_simp
 refine wpAnyH_done (by kernel_rfl) ?_ _
 obtain ⟨x0,x1,x2,x3,x4,x5,x6,x7,x8,x9,x10,x11⟩:=T.out.op.cells
 rw [HK.out] at x0
 go_wp2
 go_ret
 have e:opB x=L3:=by rw [HOB.out,← HLL3.out,← HLL2.out,← HLL1.out]; simp only [List.append_assoc]
 rw [e]
 exact ⟨_,rfl,T.out.own.base (Nat.le_succ _),T.out.below⟩
theorem rput4_any (x:Opp) (q:Option Addr) (c:Nat) (w:World) (hs:Sz x) (ha:Pa w x q c) (hk:x.k=4) (hr:rightO x=true):Calls Tryz.prog 92 #[.agg (opA x q c)] w (MadeB 5 w (opB x)):=by
 obtain ⟨i0,hi,hz0,hz1,hz2⟩:=info_parts info_u8
 have HOB:=Hi (show opB x=Wm.numB x.k.toNat ++ tailB x from rfl)
 have HSK:=Hi (show x.key.size≤140737488355328 from hs.key)
 have HSV:=Hi (show x.vt.size≤4611686018427387904 from hs.val)
 have HK:=Hi hk
 have HRI:=Hi hr
 have HPA0:=Hi ha
 have HX:=Hi (OpAt.new w x q c 89)
 have HB:=Hi ((Below.refl w.heap.size w).alloc (Nat.le_refl _) (.cells (opA x q c) 89))
 have HRR:=Hi (rright_any x q c _ hs (ha.kept HB.out))
 have HTB:=Hi (show tailB x=_ from tailB4 hk)
 have HNM:=Hi (fun W=>refNum_any 4 W)
 rw [show (numW 4).1=Wm.numB 4 from numW_one (by decide) (by decide)] at HNM
 have l0:=numB_small 4
 rw [hk] at HOB
 change Hid (opB x=Wm.numB 4 ++ tailB x) at HOB
 rw [HTB.out] at HOB
 clear HTB
 generalize Wm.numB 4=m0 at *
 obtain ⟨f0,-⟩:=right4 hr hk
 have HCN:=Hi (fun W=>refPut_any x.nt x.nr W)
 rw [putW_one f0] at HCN
 have lN:=stB_len x.nt x.nr
 generalize stB x.nt x.nr=mN at *
 have HCO:=Hi (fun W=>refNum_any (digO x.on:Nat) W)
 rw [numW_one (by cases x.on <;> decide) (by cases x.on <;> decide)] at HCO
 rw [show ((digO x.on:Nat):Int).toNat=digO x.on from rfl] at HCO
 have lO:=numB_small (digO x.on)
 generalize Wm.numB (digO x.on)=mO at *
 have hx:=HX.out
 clear hk hr ha hs
 go_enter Tryz.func92,Tryz.ntmps92
 go_wp2_with (refine wpList_load_op otR rfl _ rfl _ rfl _ _ _ (by assumption) ?_)
 refine HRR.out.mono ?_
 rw [HRI.out]
 rintro e w1 ⟨rfl,hb1⟩
 replace HX:=Hi (HX.out.kept hb1)
 replace HB:=Hi (HB.out.trans (hb1.mono HB.out.size))
 clear hb1 hx
 obtain ⟨x0,x1,x2,x3,x4,x5,x6,x7,x8,x9,x10,x11⟩:=HX.out.cells
 rw [HK.out] at x0
 go_wp2_with fail
 refine (HNM.out _).mono ?_
 rintro e w2 ⟨v2,rfl,hown,hb2⟩
 have T:=Hi (show RpO w x q c v2 m0 w2 from ⟨HX.out.kept hb2,HPA0.out.kept (HB.out.trans (hb2.mono HB.out.size)),HB.out.trans (hb2.mono HB.out.size),hown.base HX.out.lt⟩)
 clear hown hb2 HX HB x0 x1 x2 x3 x4 x5 x6 x7 x8 x9 x10 x11
 obtain ⟨pb,kb,rfl,-⟩:=T.out.own.bs
 obtain ⟨x0,x1,x2,x3,x4,x5,x6,x7,x8,x9,x10,x11⟩:=T.out.op.cells
 rw [HK.out] at x0
 go_wp2_with fail
 refine (HCN.out _).mono ?_
 rintro e wa ⟨va,rfl,hown,hb⟩
 obtain ⟨pa,ka,rfl,hbs,-,-,hpn,-⟩:=hown.bs
 replace T:=Hi (T.out.kept hb)
 have HBS:=Hi hbs
 clear hown hbs hb x0 x1 x2 x3 x4 x5 x6 x7 x8 x9 x10 x11
 go_wp2_with (at_builtin; refine wpList_append_bs rfl _ _ 103 rfl (w.heap.size+1) 5 i0 Tryz.underlying103 hi hz0 hz1 hz2 _ m0 rfl T.out.own pa ka mN rfl HBS.out hpn ?b0 ?b1 ?_)
 case b0=>omega
 case b1=>exact T.out.le
 intro vb wb hown hbel hgrow hnil
 clear hgrow hnil hpn HBS
 have T2:=T.out.app HPA0.out hown hbel
 clear T
 have T:=Hi T2
 clear T2 hown hbel
 have lenL1:(m0 ++ mN).length≤21:=by rw [List.length_append]; omega
 generalize hgl:m0 ++ mN=L1 at *
 have HLL1:=Hi hgl
 clear hgl
 obtain ⟨pb,kb,rfl,-⟩:=T.out.own.bs
 obtain ⟨x0,x1,x2,x3,x4,x5,x6,x7,x8,x9,x10,x11⟩:=T.out.op.cells
 rw [HK.out] at x0
 cases hon:x.on with
 | true =>
  rw [hon] at x11 HCO
  go_wp2_with fail
  refine (HCO.out _).mono ?_
  rintro e wa ⟨va,rfl,hown,hb⟩
  obtain ⟨pa,ka,rfl,hbs,-,-,hpn,-⟩:=hown.bs
  replace T:=Hi (T.out.kept hb)
  have HBS:=Hi hbs
  clear hown hbs hb x0 x1 x2 x3 x4 x5 x6 x7 x8 x9 x10 x11
  go_wp2_with (at_builtin; refine wpList_append_bs rfl _ _ 103 rfl (w.heap.size+1) 5 i0 Tryz.underlying103 hi hz0 hz1 hz2 _ L1 rfl T.out.own pa ka mO rfl HBS.out hpn ?b0 ?b1 ?_)
  case b0=>omega
  case b1=>exact T.out.le
  intro vb wb hown hbel hgrow hnil
  clear hgrow hnil hpn HBS
  have T2:=T.out.app HPA0.out hown hbel
  clear T
  have T:=Hi T2
  clear T2 hown hbel
  have lenL2:(L1 ++ mO).length≤28:=by rw [List.length_append]; omega
  generalize hgl:L1 ++ mO=L2 at *
  have HLL2:=Hi hgl
  clear hgl
  obtain ⟨pb,kb,rfl,-⟩:=T.out.own.bs
  obtain ⟨x0,x1,x2,x3,x4,x5,x6,x7,x8,x9,x10,x11⟩:=T.out.op.cells
  rw [HK.out] at x0
  rw [hon] at x11
  go_wp2
  go_ret
  have e:opB x=L2:=by rw [HOB.out,← HLL2.out,← HLL1.out]; simp only [List.append_assoc]
  rw [e]
  exact ⟨_,rfl,T.out.own.base (Nat.le_succ _),T.out.below⟩
 | false =>
  rw [hon] at x11 HCO
  go_wp2_with fail
  refine (HCO.out _).mono ?_
  rintro e wa ⟨va,rfl,hown,hb⟩
  obtain ⟨pa,ka,rfl,hbs,-,-,hpn,-⟩:=hown.bs
  replace T:=Hi (T.out.kept hb)
  have HBS:=Hi hbs
  clear hown hbs hb x0 x1 x2 x3 x4 x5 x6 x7 x8 x9 x10 x11
  go_wp2_with (at_builtin; refine wpList_append_bs rfl _ _ 103 rfl (w.heap.size+1) 5 i0 Tryz.underlying103 hi hz0 hz1 hz2 _ L1 rfl T.out.own pa ka mO rfl HBS.out hpn ?b0 ?b1 ?_)
  case b0=>omega
  case b1=>exact T.out.le
  intro vb wb hown hbel hgrow hnil
  clear hgrow hnil hpn HBS
  have T2:=T.out.app HPA0.out hown hbel
  clear T
  have T:=Hi T2
  clear T2 hown hbel
  have lenL2:(L1 ++ mO).length≤28:=by rw [List.length_append]; omega
  generalize hgl:L1 ++ mO=L2 at *
  have HLL2:=Hi hgl
  clear hgl
  obtain ⟨pb,kb,rfl,-⟩:=T.out.own.bs
  obtain ⟨x0,x1,x2,x3,x4,x5,x6,x7,x8,x9,x10,x11⟩:=T.out.op.cells
  rw [HK.out] at x0
  rw [hon] at x11
  go_wp2
  go_ret
  have e:opB x=L2:=by rw [HOB.out,← HLL2.out,← HLL1.out]; simp only [List.append_assoc]
  rw [e]
  exact ⟨_,rfl,T.out.own.base (Nat.le_succ _),T.out.below⟩
theorem rput5_any (x:Opp) (q:Option Addr) (c:Nat) (w:World) (hs:Sz x) (ha:Pa w x q c) (hk:x.k=5) (hr:rightO x=true):Calls Tryz.prog 92 #[.agg (opA x q c)] w (MadeB 5 w (opB x)):=by
 obtain ⟨i0,hi,hz0,hz1,hz2⟩:=info_parts info_u8
 have HOB:=Hi (show opB x=Wm.numB x.k.toNat ++ tailB x from rfl)
 have HSK:=Hi (show x.key.size≤140737488355328 from hs.key)
 have HSV:=Hi (show x.vt.size≤4611686018427387904 from hs.val)
 have HK:=Hi hk
 have HRI:=Hi hr
 have HPA0:=Hi ha
 have HX:=Hi (OpAt.new w x q c 89)
 have HB:=Hi ((Below.refl w.heap.size w).alloc (Nat.le_refl _) (.cells (opA x q c) 89))
 have HRR:=Hi (rright_any x q c _ hs (ha.kept HB.out))
 have HTB:=Hi (show tailB x=_ from tailB5 hk)
 have HNM:=Hi (fun W=>refNum_any 5 W)
 rw [show (numW 5).1=Wm.numB 5 from numW_one (by decide) (by decide)] at HNM
 have l0:=numB_small 5
 rw [hk] at HOB
 change Hid (opB x=Wm.numB 5 ++ tailB x) at HOB
 rw [HTB.out] at HOB
 clear HTB
 generalize Wm.numB 5=m0 at *
 obtain ⟨f0,f1,-⟩:=right5 hr hk
 have HCN:=Hi (fun W=>refPut_any x.nt x.nr W)
 rw [putW_one f0] at HCN
 have lN:=stB_len x.nt x.nr
 generalize stB x.nt x.nr=mN at *
 have HCR:=Hi (fun W=>refPut_any x.rt x.rr W)
 rw [putW_one f1] at HCR
 have lR:=stB_len x.rt x.rr
 generalize stB x.rt x.rr=mR at *
 have hx:=HX.out
 clear hk hr ha hs
 go_enter Tryz.func92,Tryz.ntmps92
 go_wp2_with (refine wpList_load_op otR rfl _ rfl _ rfl _ _ _ (by assumption) ?_)
 refine HRR.out.mono ?_
 rw [HRI.out]
 rintro e w1 ⟨rfl,hb1⟩
 replace HX:=Hi (HX.out.kept hb1)
 replace HB:=Hi (HB.out.trans (hb1.mono HB.out.size))
 clear hb1 hx
 obtain ⟨x0,x1,x2,x3,x4,x5,x6,x7,x8,x9,x10,x11⟩:=HX.out.cells
 rw [HK.out] at x0
 go_wp2_with fail
 refine (HNM.out _).mono ?_
 rintro e w2 ⟨v2,rfl,hown,hb2⟩
 have T:=Hi (show RpO w x q c v2 m0 w2 from ⟨HX.out.kept hb2,HPA0.out.kept (HB.out.trans (hb2.mono HB.out.size)),HB.out.trans (hb2.mono HB.out.size),hown.base HX.out.lt⟩)
 clear hown hb2 HX HB x0 x1 x2 x3 x4 x5 x6 x7 x8 x9 x10 x11
 obtain ⟨pb,kb,rfl,-⟩:=T.out.own.bs
 obtain ⟨x0,x1,x2,x3,x4,x5,x6,x7,x8,x9,x10,x11⟩:=T.out.op.cells
 rw [HK.out] at x0
 go_wp2_with fail
 refine (HCN.out _).mono ?_
 rintro e wa ⟨va,rfl,hown,hb⟩
 obtain ⟨pa,ka,rfl,hbs,-,-,hpn,-⟩:=hown.bs
 replace T:=Hi (T.out.kept hb)
 have HBS:=Hi hbs
 clear hown hbs hb x0 x1 x2 x3 x4 x5 x6 x7 x8 x9 x10 x11
 go_wp2_with (at_builtin; refine wpList_append_bs rfl _ _ 103 rfl (w.heap.size+1) 5 i0 Tryz.underlying103 hi hz0 hz1 hz2 _ m0 rfl T.out.own pa ka mN rfl HBS.out hpn ?b0 ?b1 ?_)
 case b0=>omega
 case b1=>exact T.out.le
 intro vb wb hown hbel hgrow hnil
 clear hgrow hnil hpn HBS
 have T2:=T.out.app HPA0.out hown hbel
 clear T
 have T:=Hi T2
 clear T2 hown hbel
 have lenL1:(m0 ++ mN).length≤21:=by rw [List.length_append]; omega
 generalize hgl:m0 ++ mN=L1 at *
 have HLL1:=Hi hgl
 clear hgl
 obtain ⟨pb,kb,rfl,-⟩:=T.out.own.bs
 obtain ⟨x0,x1,x2,x3,x4,x5,x6,x7,x8,x9,x10,x11⟩:=T.out.op.cells
 rw [HK.out] at x0
 go_wp2_with fail
 refine (HCR.out _).mono ?_
 rintro e wa ⟨va,rfl,hown,hb⟩
 obtain ⟨pa,ka,rfl,hbs,-,-,hpn,-⟩:=hown.bs
 replace T:=Hi (T.out.kept hb)
 have HBS:=Hi hbs
 clear hown hbs hb x0 x1 x2 x3 x4 x5 x6 x7 x8 x9 x10 x11
 go_wp2_with (at_builtin; refine wpList_append_bs rfl _ _ 103 rfl (w.heap.size+1) 5 i0 Tryz.underlying103 hi hz0 hz1 hz2 _ L1 rfl T.out.own pa ka mR rfl HBS.out hpn ?b0 ?b1 ?_)
 case b0=>omega
 case b1=>exact T.out.le
 intro vb wb hown hbel hgrow hnil
 clear hgrow hnil hpn HBS
 have T2:=T.out.app HPA0.out hown hbel
 clear T
 have T:=Hi T2
 clear T2 hown hbel
 have lenL2:(L1 ++ mR).length≤35:=by rw [List.length_append]; omega
 generalize hgl:L1 ++ mR=L2 at *
 have HLL2:=Hi hgl
 clear hgl
 obtain ⟨pb,kb,rfl,-⟩:=T.out.own.bs
 obtain ⟨x0,x1,x2,x3,x4,x5,x6,x7,x8,x9,x10,x11⟩:=T.out.op.cells
 rw [HK.out] at x0
 go_wp2
 go_ret
 have e:opB x=L2:=by rw [HOB.out,← HLL2.out,← HLL1.out]; simp only [List.append_assoc]
 rw [e]
 exact ⟨_,rfl,T.out.own.base (Nat.le_succ _),T.out.below⟩
theorem rput6_any (x:Opp) (q:Option Addr) (c:Nat) (w:World) (hs:Sz x) (ha:Pa w x q c) (hk:x.k=6) (hr:rightO x=true):Calls Tryz.prog 92 #[.agg (opA x q c)] w (MadeB 5 w (opB x)):=by
 obtain ⟨i0,hi,hz0,hz1,hz2⟩:=info_parts info_u8
 have HOB:=Hi (show opB x=Wm.numB x.k.toNat ++ tailB x from rfl)
 have HSK:=Hi (show x.key.size≤140737488355328 from hs.key)
 have HSV:=Hi (show x.vt.size≤4611686018427387904 from hs.val)
 have HK:=Hi hk
 have HRI:=Hi hr
 have HPA0:=Hi ha
 have HX:=Hi (OpAt.new w x q c 89)
 have HB:=Hi ((Below.refl w.heap.size w).alloc (Nat.le_refl _) (.cells (opA x q c) 89))
 have HRR:=Hi (rright_any x q c _ hs (ha.kept HB.out))
 have HTB:=Hi (show tailB x=_ from tailB6 hk)
 have HNM:=Hi (fun W=>refNum_any 6 W)
 rw [show (numW 6).1=Wm.numB 6 from numW_one (by decide) (by decide)] at HNM
 have l0:=numB_small 6
 rw [hk] at HOB
 change Hid (opB x=Wm.numB 6 ++ tailB x) at HOB
 rw [HTB.out] at HOB
 clear HTB
 generalize Wm.numB 6=m0 at *
 obtain ⟨f0,f4,f3,-⟩:=right6 hr hk
 obtain ⟨p0,p1,hv8⟩:=right8_facts f3
 have hp8:=(okPath_small f4).2.1
 have ls:=(okPath_small f4).2.2
 have HCN:=Hi (fun W=>refPut_any x.nt x.nr W)
 rw [putW_one f0] at HCN
 have lN:=stB_len x.nt x.nr
 generalize stB x.nt x.nr=mN at *
 have HCL:=Hi (fun W=>refNum_any (x.path.length:Int) W)
 rw [numW_one (by omega) (by omega)] at HCL
 rw [show ((x.path.length:Nat):Int).toNat=x.path.length from rfl] at HCL
 have lL:=numB_small x.path.length
 generalize Wm.numB x.path.length=mL at *
 have HCP:=Hi (fun W=>refNum_any x.p W)
 rw [numW_one (by omega) (by omega)] at HCP
 have lP:=numB_small x.p.toNat
 generalize Wm.numB x.p.toNat=mP at *
 have HCV:=Hi (fun W=>(fun W=>refVput_any x.vk x.vn x.vt W HSV.out) W)
 rw [putV_one hv8] at HCV
 have lV:=vlB_len hv8
 generalize vlB x.vk x.vn x.vt=mV at *
 have hx:=HX.out
 clear hk hr ha hs
 go_enter Tryz.func92,Tryz.ntmps92
 go_wp2_with (refine wpList_load_op otR rfl _ rfl _ rfl _ _ _ (by assumption) ?_)
 refine HRR.out.mono ?_
 rw [HRI.out]
 rintro e w1 ⟨rfl,hb1⟩
 replace HX:=Hi (HX.out.kept hb1)
 replace HB:=Hi (HB.out.trans (hb1.mono HB.out.size))
 clear hb1 hx
 obtain ⟨x0,x1,x2,x3,x4,x5,x6,x7,x8,x9,x10,x11⟩:=HX.out.cells
 rw [HK.out] at x0
 go_wp2_with fail
 refine (HNM.out _).mono ?_
 rintro e w2 ⟨v2,rfl,hown,hb2⟩
 have T:=Hi (show RpO w x q c v2 m0 w2 from ⟨HX.out.kept hb2,HPA0.out.kept (HB.out.trans (hb2.mono HB.out.size)),HB.out.trans (hb2.mono HB.out.size),hown.base HX.out.lt⟩)
 clear hown hb2 HX HB x0 x1 x2 x3 x4 x5 x6 x7 x8 x9 x10 x11
 obtain ⟨pb,kb,rfl,-⟩:=T.out.own.bs
 obtain ⟨x0,x1,x2,x3,x4,x5,x6,x7,x8,x9,x10,x11⟩:=T.out.op.cells
 rw [HK.out] at x0
 go_wp2_with fail
 refine (HCN.out _).mono ?_
 rintro e wa ⟨va,rfl,hown,hb⟩
 obtain ⟨pa,ka,rfl,hbs,-,-,hpn,-⟩:=hown.bs
 replace T:=Hi (T.out.kept hb)
 have HBS:=Hi hbs
 clear hown hbs hb x0 x1 x2 x3 x4 x5 x6 x7 x8 x9 x10 x11
 go_wp2_with (at_builtin; refine wpList_append_bs rfl _ _ 103 rfl (w.heap.size+1) 5 i0 Tryz.underlying103 hi hz0 hz1 hz2 _ m0 rfl T.out.own pa ka mN rfl HBS.out hpn ?b0 ?b1 ?_)
 case b0=>omega
 case b1=>exact T.out.le
 intro vb wb hown hbel hgrow hnil
 clear hgrow hnil hpn HBS
 have T2:=T.out.app HPA0.out hown hbel
 clear T
 have T:=Hi T2
 clear T2 hown hbel
 have lenL1:(m0 ++ mN).length≤21:=by rw [List.length_append]; omega
 generalize hgl:m0 ++ mN=L1 at *
 have HLL1:=Hi hgl
 clear hgl
 obtain ⟨pb,kb,rfl,-⟩:=T.out.own.bs
 obtain ⟨x0,x1,x2,x3,x4,x5,x6,x7,x8,x9,x10,x11⟩:=T.out.op.cells
 rw [HK.out] at x0
 go_wp2_with fail
 refine (HCL.out _).mono ?_
 rintro e wa ⟨va,rfl,hown,hb⟩
 obtain ⟨pa,ka,rfl,hbs,-,-,hpn,-⟩:=hown.bs
 replace T:=Hi (T.out.kept hb)
 have HBS:=Hi hbs
 clear hown hbs hb x0 x1 x2 x3 x4 x5 x6 x7 x8 x9 x10 x11
 go_wp2_with (at_builtin; refine wpList_append_bs rfl _ _ 103 rfl (w.heap.size+1) 5 i0 Tryz.underlying103 hi hz0 hz1 hz2 _ L1 rfl T.out.own pa ka mL rfl HBS.out hpn ?b0 ?b1 ?_)
 case b0=>omega
 case b1=>exact T.out.le
 intro vb wb hown hbel hgrow hnil
 clear hgrow hnil hpn HBS
 have T2:=T.out.app HPA0.out hown hbel
 clear T
 have T:=Hi T2
 clear T2 hown hbel
 have lenL2:(L1 ++ mL).length≤28:=by rw [List.length_append]; omega
 generalize hgl:L1 ++ mL=L2 at *
 have HLL2:=Hi hgl
 clear hgl
 obtain ⟨pb,kb,rfl,-⟩:=T.out.own.bs
 obtain ⟨x0,x1,x2,x3,x4,x5,x6,x7,x8,x9,x10,x11⟩:=T.out.op.cells
 rw [HK.out] at x0
 go_wp2
 go_loopw [3,4] (fun v i wr=>∃ (k:Nat) (l:List UInt8) (pv:Option Addr) (cv:Nat),k≤x.path.length∧i=.int .i64 (k:Int)∧v=.slice pv l.length cv∧RpO w x q c (.slice pv l.length cv) l wr∧l=L2 ++ paB (x.path.take k)) (fun _ i _=>x.path.length - (intOf i).toNat)
 case atStart=>exact ⟨0,_,_,_,Nat.zero_le _,rfl,rfl,T.out,by simp [paB]⟩
 case round =>
  clear T x0 x1 x2 x3 x4 x5 x6 x7 x8 x9 x10 x11
  obtain ⟨k,l,pv,cv,hk,rfl,rfl,ht,hl⟩:=hrel
  have T:=Hi ht
  have HL:=Hi hl
  clear ht
  have lpa:=paB_len (x.path.take k)
  have ltk:(x.path.take k).length≤8:=by rw [List.length_take]; omega
  have lll:l.length≤200:=by rw [hl,List.length_append]; omega
  clear hl lpa ltk
  obtain ⟨x0,x1,x2,x3,x4,x5,x6,x7,x8,x9,x10,x11⟩:=T.out.op.cells
  rw [HK.out] at x0
  by_cases hlt:k<x.path.length
  ·have d0:decide ((k:Int)<(x.path.length:Int))=true:=decide_eq_true (by omega)
   obtain ⟨b,o,rfl,-⟩:=T.out.pa.rd.addr (by rw [stCells_length]; omega)
   obtain ⟨c0,c1⟩:=T.out.pa.rd.st k hlt
   have HTK:=Hi (paB_take hlt)
   have HPT:=Hi (fun W=>refPut_any (Qm.stOf x.path k).1 (Qm.stOf x.path k).2 W)
   rw [putW_one (ls _ (stOf_mem hlt))] at HPT
   have lst:=stB_len (Qm.stOf x.path k).1 (Qm.stOf x.path k).2
   generalize stB (Qm.stOf x.path k).1 (Qm.stOf x.path k).2=ms at *
   generalize (Qm.stOf x.path k).1=st at *
   generalize (Qm.stOf x.path k).2=sr at *
   go_wp2_with fail
   refine (HPT.out _).mono ?_
   rintro e wa ⟨va,rfl,hown,hb⟩
   obtain ⟨pa,ka,rfl,hbs,-,-,hpn,-⟩:=hown.bs
   replace T:=Hi (T.out.kept hb)
   have HBS:=Hi hbs
   clear hown hbs hb c0 c1 x0 x1 x2 x3 x4 x5 x6 x7 x8 x9 x10 x11
   go_wp2_with (at_builtin; refine wpList_append_bs rfl _ _ 103 rfl (w.heap.size+1) 5 i0 Tryz.underlying103 hi hz0 hz1 hz2 _ l rfl T.out.own pa ka ms rfl HBS.out hpn ?b0 ?b1 ?_)
   case b0=>omega
   case b1=>exact T.out.le
   intro vb wb hown hbel hgrow hnil
   clear hgrow hnil hpn HBS
   have T2:=T.out.app HPA0.out hown hbel
   clear T
   have T:=Hi T2
   clear T2 hown hbel
   have lenLN:(l ++ ms).length≤214:=by rw [List.length_append]; omega
   generalize hgl:l ++ ms=LN at *
   have HLLN:=Hi hgl
   clear hgl
   obtain ⟨pb,kb,rfl,-⟩:=T.out.own.bs
   obtain ⟨x0,x1,x2,x3,x4,x5,x6,x7,x8,x9,x10,x11⟩:=T.out.op.cells
   rw [HK.out] at x0
   go_wp2
   go_roundw
   case rel=>exact ⟨k+1,LN,pb,kb,by omega,by go_num,rfl,T.out,by rw [HTK.out,← List.append_assoc,← HL.out]; exact HLLN.out.symm⟩
   case measure=>simp [intOf]; omega
  ·obtain rfl:k=x.path.length:=by omega
   have d0:decide ((x.path.length:Int)<(x.path.length:Int))=false:=decide_eq_false (by omega)
   rw [List.take_length] at HL
   go_wp2
   clear x0 x1 x2 x3 x4 x5 x6 x7 x8 x9 x10 x11
   have HS0:=Hi (show OpAt _ w.heap.size x q c from (T.out.kept (Below.drew (Below.refl _ _))).op)
   replace T:=Hi (T.out.kept (Below.drew (Below.refl _ _)))
   refine wp_region_held_drew (S:=(fun W=>OpAt W w.heap.size x q c)) (by kernel_rfl) HS0.out (fun hS=>?_)
   clear HS0
   refine tX 0 rfl hS ?_
   refine tX 1 rfl hS ?_
   refine tK 2 (v:=?_) rfl ?_ hS ?_
   rotate_left
   ·intro W hSW
    have x7:=hSW.cells.2.2.2.2.2.2.2.1
    go_simp
    all_goals with_reducible rfl
   go_simp
   refine tX 5 rfl hS ?_
   refine tK 6 (v:=?_) rfl ?_ hS ?_
   rotate_left
   ·intro W hSW
    have x8:=hSW.cells.2.2.2.2.2.2.2.2.1
    have x9:=hSW.cells.2.2.2.2.2.2.2.2.2.1
    have x10:=hSW.cells.2.2.2.2.2.2.2.2.2.2.1
    go_simp
    all_goals with_reducible rfl
   go_simp
   refine rD 3 rfl (fun K hK=>?_)
   go_simp
   go_wp2_with ((go_at_call 91; refine (HCP.out _).mono ?_; rintro e wa ⟨va,rfl,hown,hb⟩))
   obtain ⟨pa,ka,rfl,hbs,-,-,hpn,-⟩:=hown.bs
   replace T:=Hi (T.out.kept hb)
   have HBS:=Hi hbs
   have HPN:=Hi hpn
   clear hown hbs hb hpn
   refine hK.out _ _ T.out.op (fun hS=>?_)
   clear hK K
   refine rD 4 rfl (fun K hK=>?_)
   refine step_append_bs (by kernel_rfl) _ _ 103 rfl (w.heap.size+1) 5 i0 Tryz.underlying103 hi hz0 hz1 hz2 _ l rfl T.out.own pa ka mP rfl HBS.out HPN.out (by omega) T.out.le ?_
   intro vb wb hown hbel
   have T2:=T.out.app HPA0.out hown hbel
   clear T
   have T:=Hi T2
   clear T2 hown hbel HBS HPN
   have lenL8:(l ++ mP).length≤207:=by rw [List.length_append]; omega
   generalize hgl:l ++ mP=L8 at *
   have HLL8:=Hi hgl
   clear hgl
   obtain ⟨pb,kb,rfl,-⟩:=T.out.own.bs
   refine hK.out _ _ T.out.op (fun hS=>?_)
   clear hK K
   refine rD 7 rfl (fun K hK=>?_)
   go_simp
   go_wp2_with ((go_at_call 113; refine (HCV.out _).mono ?_; rintro e wa ⟨va,rfl,hown,hb⟩))
   obtain ⟨pa,ka,rfl,hbs,-,-,hpn,-⟩:=hown.bs
   replace T:=Hi (T.out.kept hb)
   have HBS:=Hi hbs
   have HPN:=Hi hpn
   clear hown hbs hb hpn
   refine hK.out _ _ T.out.op (fun hS=>?_)
   clear hK K
   refine rD 8 rfl (fun K hK=>?_)
   refine step_append_bs (by kernel_rfl) _ _ 103 rfl (w.heap.size+1) 5 i0 Tryz.underlying103 hi hz0 hz1 hz2 _ L8 rfl T.out.own pa ka mV rfl HBS.out HPN.out (by omega) T.out.le ?_
   intro vb wb hown hbel
   have T2:=T.out.app HPA0.out hown hbel
   clear T
   have T:=Hi T2
   clear T2 hown hbel HBS HPN
   have lenL9:(L8 ++ mV).length≤307:=by rw [List.length_append]; omega
   generalize hgl:L8 ++ mV=L9 at *
   have HLL9:=Hi hgl
   clear hgl
   obtain ⟨pb,kb,rfl,-⟩:=T.out.own.bs
   refine hK.out _ _ T.out.op (fun hS=>?_)
   clear hK K
   refine tX 9 rfl hS ?_
   go_simp
   refine wpAnyH_done (by kernel_rfl) ?_ _
   obtain ⟨x0,x1,x2,x3,x4,x5,x6,x7,x8,x9,x10,x11⟩:=T.out.op.cells
   rw [HK.out] at x0
   go_wp2
   go_ret
   have e:opB x=L9:=by rw [HOB.out,← HLL9.out,← HLL8.out,HL.out,← HLL2.out,← HLL1.out]; simp only [List.append_assoc]
   rw [e]
   exact ⟨_,rfl,T.out.own.base (Nat.le_succ _),T.out.below⟩
theorem rput_any (x:Opp) (q:Option Addr) (c:Nat) (w:World) (hs:Sz x) (ha:Pa w x q c):Calls Tryz.prog 92 #[.agg (opA x q c)] w (MadeB 5 w (putO x).1):=by
 cases hr:rightO x with
 | true =>
  rw [putO_ok hr]
  obtain ⟨k1,k6⟩:=rightO_kind hr
  have hc:x.k=1∨x.k=2∨x.k=3∨x.k=4∨x.k=5∨x.k=6:=by omega
  rcases hc with hk | hk | hk | hk | hk | hk
  ·exact rput1_any x q c w hs ha hk hr
  ·exact rput2_any x q c w hs ha hk hr
  ·exact rput3_any x q c w hs ha hk hr
  ·exact rput4_any x q c w hs ha hk hr
  ·exact rput5_any x q c w hs ha hk hr
  ·exact rput6_any x q c w hs ha hk hr
 | false =>
  rw [putO_err hr]
  have HX:=Hi (OpAt.new w x q c 89)
  have HB:=Hi ((Below.refl w.heap.size w).alloc (Nat.le_refl _) (.cells (opA x q c) 89))
  have HRR:=Hi (rright_any x q c _ hs (ha.kept HB.out))
  rw [hr] at HRR
  have hx:=HX.out
  clear ha hs hr
  go_enter Tryz.func92,Tryz.ntmps92
  go_wp2_with (refine wpList_load_op otR rfl _ rfl _ rfl _ _ _ (by assumption) ?_)
  refine HRR.out.mono ?_
  rintro e w1 ⟨rfl,hb1⟩
  replace HB:=Hi (HB.out.trans (hb1.mono HB.out.size))
  clear hb1 hx
  go_wp2
  go_ret
  exact ⟨_,rfl,Own.nil _ _ _,HB.out⟩
end Go.Proofs.YtfgnmnkihbgjnaaGreat

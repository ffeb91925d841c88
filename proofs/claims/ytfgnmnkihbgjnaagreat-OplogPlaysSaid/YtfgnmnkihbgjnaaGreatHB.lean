/-
  A VALUE's BYTES: folded, unfolded, Put, Take.
  No conditions.
  TAKE.
  No conditions.
  PUT.
  No conditions.
  Right8 of the program and of the document.
  No conditions.
-/
import Derived.Test.YtfgnmnkihbgjnaaGreatSh
import Derived.Test.YtfgnmnkihbgjnaaGreatHA
import Derived.Test.YtfgnmnkihbgjnaaGreatGB
set_option maxRecDepth 100000
set_option maxHeartbeats 4000000
namespace Go.Proofs.YtfgnmnkihbgjnaaGreat
open Go.RowKit
def foldV (n:Int):Nat:=if n<0 then (-2 * n - 1).toNat else (2 * n).toNat
theorem foldV_le (n:Int) (h0:-1099511627776≤n) (h1:n≤1099511627776):foldV n≤2199023255552:=by
 unfold foldV
 split <;> omega
theorem folded_any (n:Int) (w:World) (h0:-1099511627776≤n) (h1:n≤1099511627776):Calls Tryz.prog 117 #[.int .i64 n] w fun e w'=>e=.returned (.int .i64 (foldV n:Nat))∧w=w':=by
 by_cases h:n<0
 ·have HE:=Hi (show -2 * n - 1=((foldV n:Nat):Int) by unfold foldV; rw [if_pos h]; omega)
  go_enter Tryz.func117,Tryz.ntmps117
  go_wp2
  go_ret
  exact ⟨ret_int HE.out,rfl⟩
 ·have HE:=Hi (show 2 * n=((foldV n:Nat):Int) by unfold foldV; rw [if_neg h]; omega)
  have d0:decide (n<0)=false:=decide_eq_false h
  go_enter Tryz.func117,Tryz.ntmps117
  go_wp2
  go_ret
  exact ⟨ret_int HE.out,rfl⟩
def restV (k n:Int) (t:List UInt8):List UInt8 :=
 if k=3 then Wm.numB t.length ++ t else if k=4 then Wm.numB n.toNat else if k=0 then [] else Wm.numB (foldV n)
def putV (k n:Int) (t:List UInt8):List UInt8 × Nat:=if Vm.rightV k n t=true then (Wm.numB k.toNat ++ restV k n t,0) else ([],1)
theorem right_kind {k n:Int} {t:List UInt8} (h:Vm.rightV k n t=true):k=0∨k=1∨k=2∨k=3∨k=4:=Classical.byContradiction fun hh=>by
 rw [Vm.rightV_other k n _ (by omega) (by omega) (by omega) (by omega) (by omega)] at h
 cases h
theorem right_num {k n:Int} {t:List UInt8} (h:Vm.rightV k n t=true) (hk:k=1∨k=2):-1099511627776≤n∧n≤1099511627776:=by
 rw [Vm.rightV_num _ _ _ hk] at h
 simp only [Bool.and_eq_true,decide_eq_true_eq] at h
 exact h.1
theorem right_text {n:Int} {t:List UInt8} (h:Vm.rightV 3 n t=true):n=0∧t.length≤64:=by
 rw [Vm.rightV_text] at h
 simp only [Vm.okT,Bool.and_eq_true,decide_eq_true_eq] at h
 exact ⟨h.1,h.2.1⟩
theorem right_flag {n:Int} {t:List UInt8} (h:Vm.rightV 4 n t=true):n=0∨n=1:=by
 rw [Vm.rightV_flag] at h
 simp only [Bool.and_eq_true,decide_eq_true_eq] at h
 exact h.1
theorem OwnX.only {E:TypeId} {w w':World} {B k g n cap:Nat} {l:List UInt8} (h:Own E w B (.slice (some ⟨g,0,none⟩) n cap) l) (ho:Only k w w') (hne:g≠k):Own E w' B (.slice (some ⟨g,0,none⟩) n cap) l :=
 World.ownsRow.kept (row:=some k) h ho (by simp [Value.ownBlock,hne])
theorem ThreeAt.set1 {w:World} {b:Nat} {k n:Int} {t:ByteArray} (h:ThreeAt w b k n t) (n':Int):ThreeAt (w.setCell ⟨b,1,none⟩ (.int .i64 n')) b k n' t:=Go.Joins.block_setCell h (i:=1) (.int .i64 n')
theorem ThreeAt.only {w w':World} {b c:Nat} {k n:Int} {t:ByteArray} (h:ThreeAt w b k n t) (ho:Only c w w') (hne:b≠c):ThreeAt w' b k n t:=(ho.block b h.size (by simpa using hne)).trans h
open Go.RowKit
theorem Bs.three {w:World} {p:Option Addr} {l:List UInt8} {v:Nat} {k n:Int} {t:ByteArray} (h:Bs w p l) (hk:ThreeAt w v k n t) (o:Nat) (x:Value):Bs (w.setCell ⟨v,o,none⟩ x) p l:=by
 intro h0
 obtain ⟨b',o',rfl,hc⟩:=h h0
 refine ⟨b',o',rfl,fun i hi=>?_⟩
 have hne:b'≠v:=by
  rintro rfl
  have:=hc i hi
  rw [Go.Joins.cell_of_block hk] at this
  match o'+i,this with
  | 0,this=>simp at this
  | 1,this=>simp at this
  | 2,this=>simp at this
  | n+3,this=>simp at this
 rw [cell_other (by intro e; injection e with e1; exact hne e1.symm)]
 exact hc i hi
theorem Rdr.three {w:World} {B b v:Nat} {l:List UInt8} {err:Nat} {k n:Int} {t:ByteArray} (h:Rdr w B b l err) (hk:ThreeAt w v k n t) (hne:v≠b) (o:Nat) (x:Value):Rdr (w.setCell ⟨v,o,none⟩ x) B b l err:=by
 obtain ⟨h0,h1,h2,h3,h4,h5,p,c,h6,h7,h8,h9,h10⟩:=h
 refine ⟨h0,?_,?_,by simpa using h3,by simpa using h4,h5,p,c,?_,h7.three hk _ _,h8,h9,h10⟩
 ·rw [cell_other (by intro e; injection e with e1; exact hne e1)]; exact h1
 ·rw [cell_other (by intro e; injection e with e1; exact hne e1)]; exact h2
 ·rw [cell_other (by intro e; injection e with e1; exact hne e1)]; exact h6
theorem Only.far1 {b k:Nat} {w0 w:World} (h:Only b w0 w) (hk:w0.heap.size≤k) (o:Nat) (v:Value):Only b w0 (w.setCell ⟨k,o,none⟩ v):=by
 refine ⟨h.os,h.tape,h.output,by simpa [World.setCell] using h.size,fun i hi hn=>?_⟩
 rw [Below.heap_setCell _ _ _ _ (by simp; omega)]
 exact h.block i hi hn
theorem Only.ofBelow {b:Nat} {w w':World} (h:Below w.heap.size w w'):Only b w w':=⟨h.os,h.tape,h.output,h.size,fun i hi _=>h.block i hi⟩
def Tk (w0:World) (B b:Nat) (R V:Nat) (k n:Int) (t:ByteArray) (l:List UInt8) (err:Nat) (w:World):Prop :=
 (w0.heap.size≤R∧w0.heap.size≤V∧R≠V∧b<w0.heap.size)∧ThreeAt w R 0 0 ⟨#[]⟩∧ThreeAt w V k n t∧Rdr w B b l err∧Only b w0 w
theorem Tk.kept {w0 w w':World} {B b R V:Nat} {k n:Int} {t:ByteArray} {l:List UInt8} {err:Nat} (h:Tk w0 B b R V k n t l err w) (hb:Below w.heap.size w w'):Tk w0 B b R V k n t l err w' :=
 ⟨h.1,h.2.1.kept hb,h.2.2.1.kept hb,h.2.2.2.1.kept hb,h.2.2.2.2.trans (Only.ofBelow (b:=b) hb)⟩
theorem Tk.set1 {w0 w:World} {B b R V:Nat} {k n:Int} {t:ByteArray} {l:List UInt8} {err:Nat} (h:Tk w0 B b R V k n t l err w) (n':Int):Tk w0 B b R V k n' t l err (w.setCell ⟨V,1,none⟩ (.int .i64 n')):=by
 obtain ⟨⟨h1,h2,h3,h4⟩,h5,h6,h7,h8⟩:=h
 exact ⟨⟨h1,h2,h3,h4⟩,(Below.heap_setCell w ⟨V,1,none⟩ (.int .i64 n') R h3).trans h5,h6.set1 n',h7.three h6 (by omega) 1 _,h8.far1 h2 1 _⟩
open Go.RowKit
theorem Own.far {E:TypeId} {w w':World} {B k:Nat} {v:Value} {l:List UInt8} (h:Own E w B v l) (ho:Only k w w') (hk:k<B):Own E w' B v l :=
 World.ownsRow.kept (row:=some k) h ho (Or.inr fun e=>by have:=(World.ownsRow.lt h k e).1; omega)
theorem vput_any (k n:Int) (t:ByteArray) (w:World) (ht:t.size≤4611686018427387904):Calls Tryz.prog 99 #[.agg #[.int .i64 k,.int .i64 n,.string t]] w (Wrote 5 w (putV k n t.data.toList)):=by
 obtain ⟨i0,hi,hz0,hz1,hz2⟩:=info_parts info_u8
 have HB:=Hi ((Below.refl w.heap.size w).alloc (Nat.le_refl _) (.cells #[.int .i64 k,.int .i64 n,.string t] 53))
 have HT:=Hi (ThreeAt.start w k n t)
 have HRT:=Hi (fun W=>vright_any k n t W ht)
 cases hR:Vm.rightV k n t.data.toList with
 | false =>
  have HR:=Hi (show putV k n t.data.toList=([],1) by unfold putV; rw [if_neg (by simp [hR])])
  have HRB:=Hi hR
  clear hR
  go_enter Tryz.func99,Tryz.ntmps99
  go_wp2_with fail
  refine (HRT.out _).mono ?_
  rw [HRB.out]
  rintro e w1 ⟨rfl,hb1⟩
  have HB1:=Hi (HB.out.trans (hb1.mono HB.out.size))
  clear hb1
  go_wp2
  go_ret2
  rw [HR.out]
  exact ⟨_,rfl,Own.nil _ _ _,HB1.out⟩
 | true =>
  have HR:=Hi (show putV k n t.data.toList=(Wm.numB k.toNat ++ restV k n t.data.toList,0) by unfold putV; rw [if_pos hR])
  have HRB:=Hi hR
  have HK:=Hi (right_kind hR)
  have hk:=right_kind hR
  have HN1:=Hi (show numW k=(Wm.numB k.toNat,0) by unfold numW; rw [if_pos (by omega)])
  have s1:=numB_small k.toNat
  have HNM:=Hi (fun hk=>right_num hR hk)
  have HTX:=Hi (fun (hk:k=3)=>right_text (t:=t.data.toList) (n:=n) (hk ▸ hR))
  have HFL:=Hi (fun (hk:k=4)=>right_flag (t:=t.data.toList) (n:=n) (hk ▸ hR))
  have HRV:Hid (restV k n t.data.toList=if k=3 then Wm.numB t.data.toList.length ++ t.data.toList else if k=4 then Wm.numB n.toNat else if k=0 then [] else Wm.numB (foldV n)):=Hi rfl
  generalize Wm.numB k.toNat=x at *
  generalize restV k n t.data.toList=y at *
  clear hR hk
  rcases HK.out with rfl | rfl | rfl | rfl | rfl
  ·obtain rfl:y=[]:=by have h:=HRV.out; rw [if_neg (by decide),if_neg (by decide),if_pos rfl] at h; exact h
   go_enter Tryz.func99,Tryz.ntmps99
   go_wp2_with fail
   refine (HRT.out _).mono ?_
   rw [HRB.out]
   rintro e w1 ⟨rfl,hb1⟩
   have HT1:=Hi (HT.out.kept hb1)
   have HB1:=Hi (HB.out.trans (hb1.mono HB.out.size))
   have x0:=HT1.out.cell0
   clear hb1
   go_wp2_with fail
   refine (num_any 0 _).mono ?_
   rw [HN1.out]
   rintro e w2 ⟨v2,rfl,hown2,hb2⟩
   dsimp only at hown2
   have HT2:=Hi (HT1.out.kept hb2)
   have HB2:=Hi (HB1.out.trans (hb2.mono HB1.out.size))
   have hs1:=HT1.out.size
   have HO2:=Hi hown2
   obtain ⟨p2,k2,rfl,-⟩:=hown2.bs
   have hs2:=hb2.size
   clear hown2 hb2 x0
   have x0:=HT2.out.cell0
   have x1:=HT2.out.cell1
   have x2:=HT2.out.cell2
   go_wp2_with (at_builtin; refine wpList_append_bs rfl _ _ 103 rfl w.heap.size 5 i0 Tryz.underlying103 hi hz0 hz1 hz2 _ x rfl (HO2.out.base (Nat.le_of_lt hs1)) none 0 [] rfl (Bs.nil _ _) (fun _=>rfl) ?b0 ?b1 ?_)
   case b0=>simp; omega
   case b1=>omega
   intro v4 w4 hown4 hbel4 hgrow4 hnil4
   clear hgrow4 hnil4
   have HO4:=Hi (show Own 5 w4 w.heap.size v4 (x ++ []) by rw [List.append_nil]; exact hown4)
   have HB4:=Hi (HB2.out.trans hbel4)
   clear hown4 hbel4
   go_wp2
   go_ret2
   rw [HR.out]
   exact ⟨_,rfl,HO4.out,HB4.out⟩
  ·obtain ⟨n0,n1⟩:=HNM.out (by simp)
   have hf:=foldV_le n n0 n1
   obtain rfl:y=Wm.numB (foldV n):=by have h:=HRV.out; rw [if_neg (by decide),if_neg (by decide),if_neg (by decide)] at h; exact h
   have s2:=numB_small (foldV n)
   have HF:=Hi (fun W=>folded_any n W n0 n1)
   generalize foldV n=m at *
   have HN2:=Hi (show numW (m:Int)=(Wm.numB m,0) by unfold numW; rw [if_pos (by omega),Int.toNat_natCast])
   generalize Wm.numB m=y at *
   go_enter Tryz.func99,Tryz.ntmps99
   go_wp2_with fail
   refine (HRT.out _).mono ?_
   rw [HRB.out]
   rintro e w1 ⟨rfl,hb1⟩
   have HT1:=Hi (HT.out.kept hb1)
   have HB1:=Hi (HB.out.trans (hb1.mono HB.out.size))
   have x0:=HT1.out.cell0
   clear hb1
   go_wp2_with fail
   refine (num_any 1 _).mono ?_
   rw [HN1.out]
   rintro e w2 ⟨v2,rfl,hown2,hb2⟩
   dsimp only at hown2
   have HT2:=Hi (HT1.out.kept hb2)
   have HB2:=Hi (HB1.out.trans (hb2.mono HB1.out.size))
   have hs1:=HT1.out.size
   have HO2:=Hi hown2
   obtain ⟨p2,k2,rfl,-⟩:=hown2.bs
   have hs2:=hb2.size
   clear hown2 hb2 x0
   have x0:=HT2.out.cell0
   have x1:=HT2.out.cell1
   have x2:=HT2.out.cell2
   go_wp2_with fail
   refine (HF.out _).mono ?_
   rintro e w' ⟨rfl,rfl⟩
   have y1:=HT2.out.free 1
   have HT3:=Hi (HT2.out.set1 (m:Int))
   have z1:=HT3.out.cell1
   have HOX:=Hi (HO2.out.far (Only.set w.heap.size 1 w2 (.int .i64 (m:Int))) hs1)
   have HBX:=Hi (HB2.out.setCell (p:=⟨w.heap.size,1,none⟩) (Nat.le_refl _) (.int .i64 (m:Int)))
   go_wp2_with fail
   refine (num_any (m:Int) _).mono ?_
   rw [HN2.out]
   rintro e w3 ⟨v3,rfl,hown3,hb3⟩
   dsimp only at hown3
   obtain ⟨p3,k3,rfl,hbs3,-,-,hpn3,-⟩:=hown3.bs
   have HO3:=Hi (HOX.out.below hb3)
   have HBS:=Hi hbs3
   have HB3:=Hi (HBX.out.trans (hb3.mono HBX.out.size))
   have hs3:w.heap.size≤w3.heap.size:=HB3.out.size
   clear hown3 hbs3 hb3 x0 x1 x2 y1 z1
   go_wp2_with (at_builtin; refine wpList_append_bs rfl _ _ 103 rfl w.heap.size 5 i0 Tryz.underlying103 hi hz0 hz1 hz2 _ x rfl (HO3.out.base (Nat.le_of_lt hs1)) p3 k3 y rfl HBS.out hpn3 ?b0 ?b1 ?_)
   case b0=>omega
   case b1=>omega
   intro v4 w4 hown4 hbel4 hgrow4 hnil4
   clear hgrow4 hnil4
   have HO4:=Hi (show Own 5 w4 w.heap.size v4 (x ++ y) from hown4)
   have HB4:=Hi (HB3.out.trans hbel4)
   clear hown4 hbel4
   go_wp2
   go_ret2
   rw [HR.out]
   exact ⟨_,rfl,HO4.out,HB4.out⟩
  ·obtain ⟨n0,n1⟩:=HNM.out (by simp)
   have hf:=foldV_le n n0 n1
   obtain rfl:y=Wm.numB (foldV n):=by have h:=HRV.out; rw [if_neg (by decide),if_neg (by decide),if_neg (by decide)] at h; exact h
   have s2:=numB_small (foldV n)
   have HF:=Hi (fun W=>folded_any n W n0 n1)
   generalize foldV n=m at *
   have HN2:=Hi (show numW (m:Int)=(Wm.numB m,0) by unfold numW; rw [if_pos (by omega),Int.toNat_natCast])
   generalize Wm.numB m=y at *
   go_enter Tryz.func99,Tryz.ntmps99
   go_wp2_with fail
   refine (HRT.out _).mono ?_
   rw [HRB.out]
   rintro e w1 ⟨rfl,hb1⟩
   have HT1:=Hi (HT.out.kept hb1)
   have HB1:=Hi (HB.out.trans (hb1.mono HB.out.size))
   have x0:=HT1.out.cell0
   clear hb1
   go_wp2_with fail
   refine (num_any 2 _).mono ?_
   rw [HN1.out]
   rintro e w2 ⟨v2,rfl,hown2,hb2⟩
   dsimp only at hown2
   have HT2:=Hi (HT1.out.kept hb2)
   have HB2:=Hi (HB1.out.trans (hb2.mono HB1.out.size))
   have hs1:=HT1.out.size
   have HO2:=Hi hown2
   obtain ⟨p2,k2,rfl,-⟩:=hown2.bs
   have hs2:=hb2.size
   clear hown2 hb2 x0
   have x0:=HT2.out.cell0
   have x1:=HT2.out.cell1
   have x2:=HT2.out.cell2
   go_wp2_with fail
   refine (HF.out _).mono ?_
   rintro e w' ⟨rfl,rfl⟩
   have y1:=HT2.out.free 1
   have HT3:=Hi (HT2.out.set1 (m:Int))
   have z1:=HT3.out.cell1
   have HOX:=Hi (HO2.out.far (Only.set w.heap.size 1 w2 (.int .i64 (m:Int))) hs1)
   have HBX:=Hi (HB2.out.setCell (p:=⟨w.heap.size,1,none⟩) (Nat.le_refl _) (.int .i64 (m:Int)))
   go_wp2_with fail
   refine (num_any (m:Int) _).mono ?_
   rw [HN2.out]
   rintro e w3 ⟨v3,rfl,hown3,hb3⟩
   dsimp only at hown3
   obtain ⟨p3,k3,rfl,hbs3,-,-,hpn3,-⟩:=hown3.bs
   have HO3:=Hi (HOX.out.below hb3)
   have HBS:=Hi hbs3
   have HB3:=Hi (HBX.out.trans (hb3.mono HBX.out.size))
   have hs3:w.heap.size≤w3.heap.size:=HB3.out.size
   clear hown3 hbs3 hb3 x0 x1 x2 y1 z1
   go_wp2_with (at_builtin; refine wpList_append_bs rfl _ _ 103 rfl w.heap.size 5 i0 Tryz.underlying103 hi hz0 hz1 hz2 _ x rfl (HO3.out.base (Nat.le_of_lt hs1)) p3 k3 y rfl HBS.out hpn3 ?b0 ?b1 ?_)
   case b0=>omega
   case b1=>omega
   intro v4 w4 hown4 hbel4 hgrow4 hnil4
   clear hgrow4 hnil4
   have HO4:=Hi (show Own 5 w4 w.heap.size v4 (x ++ y) from hown4)
   have HB4:=Hi (HB3.out.trans hbel4)
   clear hown4 hbel4
   go_wp2
   go_ret2
   rw [HR.out]
   exact ⟨_,rfl,HO4.out,HB4.out⟩
  ·obtain ⟨rfl,hl⟩:=HTX.out rfl
   obtain rfl:y=Wm.numB t.data.toList.length ++ t.data.toList:=by have h:=HRV.out; rw [if_pos rfl] at h; exact h
   have s2:=numB_small t.data.toList.length
   have HN2:=Hi (show textW t.data.toList=(Wm.numB t.data.toList.length ++ t.data.toList,0) by unfold textW; rw [if_pos (by omega)])
   have s3:(Wm.numB t.data.toList.length ++ t.data.toList).length≤100:=by rw [List.length_append]; omega
   have hts:t.size≤64:=by rw [← str_len]; exact hl
   generalize Wm.numB t.data.toList.length ++ t.data.toList=y at *
   clear hl s2
   go_enter Tryz.func99,Tryz.ntmps99
   go_wp2_with fail
   refine (HRT.out _).mono ?_
   rw [HRB.out]
   rintro e w1 ⟨rfl,hb1⟩
   have HT1:=Hi (HT.out.kept hb1)
   have HB1:=Hi (HB.out.trans (hb1.mono HB.out.size))
   have x0:=HT1.out.cell0
   clear hb1
   go_wp2_with fail
   refine (num_any 3 _).mono ?_
   rw [HN1.out]
   rintro e w2 ⟨v2,rfl,hown2,hb2⟩
   dsimp only at hown2
   have HT2:=Hi (HT1.out.kept hb2)
   have HB2:=Hi (HB1.out.trans (hb2.mono HB1.out.size))
   have hs1:=HT1.out.size
   have HO2:=Hi hown2
   obtain ⟨p2,k2,rfl,-⟩:=hown2.bs
   have hs2:=hb2.size
   clear hown2 hb2 x0
   have x0:=HT2.out.cell0
   have x1:=HT2.out.cell1
   have x2:=HT2.out.cell2
   have HOX:=HO2
   have HBX:=HB2
   go_wp2_with fail
   refine (text_any t _ (by unfold maxLen; omega)).mono ?_
   rw [HN2.out]
   rintro e w3 ⟨v3,rfl,hown3,hb3⟩
   dsimp only at hown3
   obtain ⟨p3,k3,rfl,hbs3,-,-,hpn3,-⟩:=hown3.bs
   have HO3:=Hi (HOX.out.below hb3)
   have HBS:=Hi hbs3
   have HB3:=Hi (HBX.out.trans (hb3.mono HBX.out.size))
   have hs3:w.heap.size≤w3.heap.size:=HB3.out.size
   clear hown3 hbs3 hb3 x0 x1 x2
   go_wp2_with (at_builtin; refine wpList_append_bs rfl _ _ 103 rfl w.heap.size 5 i0 Tryz.underlying103 hi hz0 hz1 hz2 _ x rfl (HO3.out.base (Nat.le_of_lt hs1)) p3 k3 y rfl HBS.out hpn3 ?b0 ?b1 ?_)
   case b0=>omega
   case b1=>omega
   intro v4 w4 hown4 hbel4 hgrow4 hnil4
   clear hgrow4 hnil4
   have HO4:=Hi (show Own 5 w4 w.heap.size v4 (x ++ y) from hown4)
   have HB4:=Hi (HB3.out.trans hbel4)
   clear hown4 hbel4
   go_wp2
   go_ret2
   rw [HR.out]
   exact ⟨_,rfl,HO4.out,HB4.out⟩
  ·have hfl:=HFL.out rfl
   obtain rfl:y=Wm.numB n.toNat:=by have h:=HRV.out; rw [if_neg (by decide),if_pos rfl] at h; exact h
   have s2:=numB_small n.toNat
   have HN2:=Hi (show numW n=(Wm.numB n.toNat,0) by unfold numW; rw [if_pos (by omega)])
   generalize Wm.numB n.toNat=y at *
   clear hfl
   go_enter Tryz.func99,Tryz.ntmps99
   go_wp2_with fail
   refine (HRT.out _).mono ?_
   rw [HRB.out]
   rintro e w1 ⟨rfl,hb1⟩
   have HT1:=Hi (HT.out.kept hb1)
   have HB1:=Hi (HB.out.trans (hb1.mono HB.out.size))
   have x0:=HT1.out.cell0
   clear hb1
   go_wp2_with fail
   refine (num_any 4 _).mono ?_
   rw [HN1.out]
   rintro e w2 ⟨v2,rfl,hown2,hb2⟩
   dsimp only at hown2
   have HT2:=Hi (HT1.out.kept hb2)
   have HB2:=Hi (HB1.out.trans (hb2.mono HB1.out.size))
   have hs1:=HT1.out.size
   have HO2:=Hi hown2
   obtain ⟨p2,k2,rfl,-⟩:=hown2.bs
   have hs2:=hb2.size
   clear hown2 hb2 x0
   have x0:=HT2.out.cell0
   have x1:=HT2.out.cell1
   have x2:=HT2.out.cell2
   have HOX:=HO2
   have HBX:=HB2
   go_wp2_with fail
   refine (num_any n _).mono ?_
   rw [HN2.out]
   rintro e w3 ⟨v3,rfl,hown3,hb3⟩
   dsimp only at hown3
   obtain ⟨p3,k3,rfl,hbs3,-,-,hpn3,-⟩:=hown3.bs
   have HO3:=Hi (HOX.out.below hb3)
   have HBS:=Hi hbs3
   have HB3:=Hi (HBX.out.trans (hb3.mono HBX.out.size))
   have hs3:w.heap.size≤w3.heap.size:=HB3.out.size
   clear hown3 hbs3 hb3 x0 x1 x2
   go_wp2_with (at_builtin; refine wpList_append_bs rfl _ _ 103 rfl w.heap.size 5 i0 Tryz.underlying103 hi hz0 hz1 hz2 _ x rfl (HO3.out.base (Nat.le_of_lt hs1)) p3 k3 y rfl HBS.out hpn3 ?b0 ?b1 ?_)
   case b0=>omega
   case b1=>omega
   intro v4 w4 hown4 hbel4 hgrow4 hnil4
   clear hgrow4 hnil4
   have HO4:=Hi (show Own 5 w4 w.heap.size v4 (x ++ y) from hown4)
   have HB4:=Hi (HB3.out.trans hbel4)
   clear hown4 hbel4
   go_wp2
   go_ret2
   rw [HR.out]
   exact ⟨_,rfl,HO4.out,HB4.out⟩
open Go.RowKit
def kindOf (p:Int):Int:=if p=1∨p=2 then 4 else if p=3 then 3 else if p=4∨p=5∨p=6∨p=7 then 2 else if p=8 then 1 else -1
def right8V (p k n:Int) (t:List UInt8):Bool:=decide (1≤p∧p≤8) && (Vm.rightV k n t && decide (k=kindOf p∨k=0))
theorem vright8_any (p k n:Int) (t:ByteArray) (w:World) (ht:t.size≤4611686018427387904):Calls Tryz.prog 123 #[.int .i64 p,.agg #[.int .i64 k,.int .i64 n,.string t]] w fun e w'=>e=.returned (.bool (right8V p k n t.data.toList))∧Below w.heap.size w w':=by
 have hb:=(Below.refl w.heap.size w).alloc (Nat.le_refl _) (.cells #[.int .i64 k,.int .i64 n,.string t] 53)
 have HB:=Hi hb
 have HT:=Hi (ThreeAt.start w k n t)
 clear hb
 by_cases hp:1≤p∧p≤8
 ·have HR:=Hi (show right8V p k n t.data.toList=(Vm.rightV k n t.data.toList && decide (k=kindOf p∨k=0)) by unfold right8V; rw [decide_eq_true hp]; rfl)
  cases hr:Vm.rightV k n t.data.toList with
  | false =>
   have HRB:=Hi hr
   clear hr
   have hc:p=1∨p=2∨p=3∨p=4∨p=5∨p=6∨p=7∨p=8:=by omega
   clear hp
   rcases hc with rfl | rfl | rfl | rfl | rfl | rfl | rfl | rfl
   all_goals
    go_enter Tryz.func123,Tryz.ntmps123
    go_wp2_with fail
    refine (vright_any k n t _ ht).mono ?_
    rw [HRB.out]
    rintro e w1 ⟨rfl,hb1⟩
    have HB1:=Hi (HB.out.trans (hb1.mono HB.out.size))
    clear hb1
    go_wp2
    go_ret
    rw [HR.out,HRB.out]
    exact ⟨rfl,HB1.out⟩
  | true =>
   have HRB:=Hi hr
   clear hr
   by_cases h0:k=0
   ·have HD:=Hi (show decide (k=kindOf p∨k=0)=true from decide_eq_true (Or.inr h0))
    subst h0
    have hc:p=1∨p=2∨p=3∨p=4∨p=5∨p=6∨p=7∨p=8:=by omega
    clear hp
    rcases hc with rfl | rfl | rfl | rfl | rfl | rfl | rfl | rfl
    all_goals
     go_enter Tryz.func123,Tryz.ntmps123
     go_wp2_with fail
     refine (vright_any _ n t _ ht).mono ?_
     rw [HRB.out]
     rintro e w1 ⟨rfl,hb1⟩
     have HB1:=Hi (HB.out.trans (hb1.mono HB.out.size))
     have x0:=(HT.out.kept hb1).cell0
     clear hb1
     go_wp2
     go_ret
     rw [HR.out,HRB.out,HD.out]
     exact ⟨ret_bool (by simp),HB1.out⟩
   ·have e0:(k == 0)=false:=by simpa using h0
    have hc:p=1∨p=2∨p=3∨p=4∨p=5∨p=6∨p=7∨p=8:=by omega
    clear hp
    rcases hc with rfl | hc
    ·by_cases hk:k=4
     ·have HD:=Hi (show decide (k=kindOf 1∨k=0)=true from decide_eq_true (Or.inl hk))
      subst hk
      clear h0 e0
      go_enter Tryz.func123,Tryz.ntmps123
      go_wp2_with fail
      refine (vright_any _ n t _ ht).mono ?_
      rw [HRB.out]
      rintro e w1 ⟨rfl,hb1⟩
      have HB1:=Hi (HB.out.trans (hb1.mono HB.out.size))
      have x0:=(HT.out.kept hb1).cell0
      clear hb1
      go_wp2
      go_ret
      rw [HR.out,HRB.out,HD.out]
      exact ⟨ret_bool (by simp),HB1.out⟩
     ·have HD:=Hi (show decide (k=kindOf 1∨k=0)=false from decide_eq_false (by rw [show kindOf 1=4 from by decide]; omega))
      have e1:(k == 4)=false:=by simpa using hk
      clear h0 hk
      go_enter Tryz.func123,Tryz.ntmps123
      go_wp2_with fail
      refine (vright_any _ n t _ ht).mono ?_
      rw [HRB.out]
      rintro e w1 ⟨rfl,hb1⟩
      have HB1:=Hi (HB.out.trans (hb1.mono HB.out.size))
      have x0:=(HT.out.kept hb1).cell0
      clear hb1
      go_wp2
      go_ret
      rw [HR.out,HRB.out,HD.out]
      exact ⟨ret_bool (by simp),HB1.out⟩
    rcases hc with rfl | hc
    ·by_cases hk:k=4
     ·have HD:=Hi (show decide (k=kindOf 2∨k=0)=true from decide_eq_true (Or.inl hk))
      subst hk
      clear h0 e0
      go_enter Tryz.func123,Tryz.ntmps123
      go_wp2_with fail
      refine (vright_any _ n t _ ht).mono ?_
      rw [HRB.out]
      rintro e w1 ⟨rfl,hb1⟩
      have HB1:=Hi (HB.out.trans (hb1.mono HB.out.size))
      have x0:=(HT.out.kept hb1).cell0
      clear hb1
      go_wp2
      go_ret
      rw [HR.out,HRB.out,HD.out]
      exact ⟨ret_bool (by simp),HB1.out⟩
     ·have HD:=Hi (show decide (k=kindOf 2∨k=0)=false from decide_eq_false (by rw [show kindOf 2=4 from by decide]; omega))
      have e1:(k == 4)=false:=by simpa using hk
      clear h0 hk
      go_enter Tryz.func123,Tryz.ntmps123
      go_wp2_with fail
      refine (vright_any _ n t _ ht).mono ?_
      rw [HRB.out]
      rintro e w1 ⟨rfl,hb1⟩
      have HB1:=Hi (HB.out.trans (hb1.mono HB.out.size))
      have x0:=(HT.out.kept hb1).cell0
      clear hb1
      go_wp2
      go_ret
      rw [HR.out,HRB.out,HD.out]
      exact ⟨ret_bool (by simp),HB1.out⟩
    rcases hc with rfl | hc
    ·by_cases hk:k=3
     ·have HD:=Hi (show decide (k=kindOf 3∨k=0)=true from decide_eq_true (Or.inl hk))
      subst hk
      clear h0 e0
      go_enter Tryz.func123,Tryz.ntmps123
      go_wp2_with fail
      refine (vright_any _ n t _ ht).mono ?_
      rw [HRB.out]
      rintro e w1 ⟨rfl,hb1⟩
      have HB1:=Hi (HB.out.trans (hb1.mono HB.out.size))
      have x0:=(HT.out.kept hb1).cell0
      clear hb1
      go_wp2
      go_ret
      rw [HR.out,HRB.out,HD.out]
      exact ⟨ret_bool (by simp),HB1.out⟩
     ·have HD:=Hi (show decide (k=kindOf 3∨k=0)=false from decide_eq_false (by rw [show kindOf 3=3 from by decide]; omega))
      have e1:(k == 3)=false:=by simpa using hk
      clear h0 hk
      go_enter Tryz.func123,Tryz.ntmps123
      go_wp2_with fail
      refine (vright_any _ n t _ ht).mono ?_
      rw [HRB.out]
      rintro e w1 ⟨rfl,hb1⟩
      have HB1:=Hi (HB.out.trans (hb1.mono HB.out.size))
      have x0:=(HT.out.kept hb1).cell0
      clear hb1
      go_wp2
      go_ret
      rw [HR.out,HRB.out,HD.out]
      exact ⟨ret_bool (by simp),HB1.out⟩
    rcases hc with rfl | hc
    ·by_cases hk:k=2
     ·have HD:=Hi (show decide (k=kindOf 4∨k=0)=true from decide_eq_true (Or.inl hk))
      subst hk
      clear h0 e0
      go_enter Tryz.func123,Tryz.ntmps123
      go_wp2_with fail
      refine (vright_any _ n t _ ht).mono ?_
      rw [HRB.out]
      rintro e w1 ⟨rfl,hb1⟩
      have HB1:=Hi (HB.out.trans (hb1.mono HB.out.size))
      have x0:=(HT.out.kept hb1).cell0
      clear hb1
      go_wp2
      go_ret
      rw [HR.out,HRB.out,HD.out]
      exact ⟨ret_bool (by simp),HB1.out⟩
     ·have HD:=Hi (show decide (k=kindOf 4∨k=0)=false from decide_eq_false (by rw [show kindOf 4=2 from by decide]; omega))
      have e1:(k == 2)=false:=by simpa using hk
      clear h0 hk
      go_enter Tryz.func123,Tryz.ntmps123
      go_wp2_with fail
      refine (vright_any _ n t _ ht).mono ?_
      rw [HRB.out]
      rintro e w1 ⟨rfl,hb1⟩
      have HB1:=Hi (HB.out.trans (hb1.mono HB.out.size))
      have x0:=(HT.out.kept hb1).cell0
      clear hb1
      go_wp2
      go_ret
      rw [HR.out,HRB.out,HD.out]
      exact ⟨ret_bool (by simp),HB1.out⟩
    rcases hc with rfl | hc
    ·by_cases hk:k=2
     ·have HD:=Hi (show decide (k=kindOf 5∨k=0)=true from decide_eq_true (Or.inl hk))
      subst hk
      clear h0 e0
      go_enter Tryz.func123,Tryz.ntmps123
      go_wp2_with fail
      refine (vright_any _ n t _ ht).mono ?_
      rw [HRB.out]
      rintro e w1 ⟨rfl,hb1⟩
      have HB1:=Hi (HB.out.trans (hb1.mono HB.out.size))
      have x0:=(HT.out.kept hb1).cell0
      clear hb1
      go_wp2
      go_ret
      rw [HR.out,HRB.out,HD.out]
      exact ⟨ret_bool (by simp),HB1.out⟩
     ·have HD:=Hi (show decide (k=kindOf 5∨k=0)=false from decide_eq_false (by rw [show kindOf 5=2 from by decide]; omega))
      have e1:(k == 2)=false:=by simpa using hk
      clear h0 hk
      go_enter Tryz.func123,Tryz.ntmps123
      go_wp2_with fail
      refine (vright_any _ n t _ ht).mono ?_
      rw [HRB.out]
      rintro e w1 ⟨rfl,hb1⟩
      have HB1:=Hi (HB.out.trans (hb1.mono HB.out.size))
      have x0:=(HT.out.kept hb1).cell0
      clear hb1
      go_wp2
      go_ret
      rw [HR.out,HRB.out,HD.out]
      exact ⟨ret_bool (by simp),HB1.out⟩
    rcases hc with rfl | hc
    ·by_cases hk:k=2
     ·have HD:=Hi (show decide (k=kindOf 6∨k=0)=true from decide_eq_true (Or.inl hk))
      subst hk
      clear h0 e0
      go_enter Tryz.func123,Tryz.ntmps123
      go_wp2_with fail
      refine (vright_any _ n t _ ht).mono ?_
      rw [HRB.out]
      rintro e w1 ⟨rfl,hb1⟩
      have HB1:=Hi (HB.out.trans (hb1.mono HB.out.size))
      have x0:=(HT.out.kept hb1).cell0
      clear hb1
      go_wp2
      go_ret
      rw [HR.out,HRB.out,HD.out]
      exact ⟨ret_bool (by simp),HB1.out⟩
     ·have HD:=Hi (show decide (k=kindOf 6∨k=0)=false from decide_eq_false (by rw [show kindOf 6=2 from by decide]; omega))
      have e1:(k == 2)=false:=by simpa using hk
      clear h0 hk
      go_enter Tryz.func123,Tryz.ntmps123
      go_wp2_with fail
      refine (vright_any _ n t _ ht).mono ?_
      rw [HRB.out]
      rintro e w1 ⟨rfl,hb1⟩
      have HB1:=Hi (HB.out.trans (hb1.mono HB.out.size))
      have x0:=(HT.out.kept hb1).cell0
      clear hb1
      go_wp2
      go_ret
      rw [HR.out,HRB.out,HD.out]
      exact ⟨ret_bool (by simp),HB1.out⟩
    rcases hc with rfl | hc
    ·by_cases hk:k=2
     ·have HD:=Hi (show decide (k=kindOf 7∨k=0)=true from decide_eq_true (Or.inl hk))
      subst hk
      clear h0 e0
      go_enter Tryz.func123,Tryz.ntmps123
      go_wp2_with fail
      refine (vright_any _ n t _ ht).mono ?_
      rw [HRB.out]
      rintro e w1 ⟨rfl,hb1⟩
      have HB1:=Hi (HB.out.trans (hb1.mono HB.out.size))
      have x0:=(HT.out.kept hb1).cell0
      clear hb1
      go_wp2
      go_ret
      rw [HR.out,HRB.out,HD.out]
      exact ⟨ret_bool (by simp),HB1.out⟩
     ·have HD:=Hi (show decide (k=kindOf 7∨k=0)=false from decide_eq_false (by rw [show kindOf 7=2 from by decide]; omega))
      have e1:(k == 2)=false:=by simpa using hk
      clear h0 hk
      go_enter Tryz.func123,Tryz.ntmps123
      go_wp2_with fail
      refine (vright_any _ n t _ ht).mono ?_
      rw [HRB.out]
      rintro e w1 ⟨rfl,hb1⟩
      have HB1:=Hi (HB.out.trans (hb1.mono HB.out.size))
      have x0:=(HT.out.kept hb1).cell0
      clear hb1
      go_wp2
      go_ret
      rw [HR.out,HRB.out,HD.out]
      exact ⟨ret_bool (by simp),HB1.out⟩
    subst hc
    by_cases hk:k=1
    ·have HD:=Hi (show decide (k=kindOf 8∨k=0)=true from decide_eq_true (Or.inl hk))
     subst hk
     clear h0 e0
     go_enter Tryz.func123,Tryz.ntmps123
     go_wp2_with fail
     refine (vright_any _ n t _ ht).mono ?_
     rw [HRB.out]
     rintro e w1 ⟨rfl,hb1⟩
     have HB1:=Hi (HB.out.trans (hb1.mono HB.out.size))
     have x0:=(HT.out.kept hb1).cell0
     clear hb1
     go_wp2
     go_ret
     rw [HR.out,HRB.out,HD.out]
     exact ⟨ret_bool (by simp),HB1.out⟩
    ·have HD:=Hi (show decide (k=kindOf 8∨k=0)=false from decide_eq_false (by rw [show kindOf 8=1 from by decide]; omega))
     have e1:(k == 1)=false:=by simpa using hk
     clear h0 hk
     go_enter Tryz.func123,Tryz.ntmps123
     go_wp2_with fail
     refine (vright_any _ n t _ ht).mono ?_
     rw [HRB.out]
     rintro e w1 ⟨rfl,hb1⟩
     have HB1:=Hi (HB.out.trans (hb1.mono HB.out.size))
     have x0:=(HT.out.kept hb1).cell0
     clear hb1
     go_wp2
     go_ret
     rw [HR.out,HRB.out,HD.out]
     exact ⟨ret_bool (by simp),HB1.out⟩
 ·have HR:=Hi (show right8V p k n t.data.toList=false by unfold right8V; rw [decide_eq_false hp]; rfl)
  have e1:(p == 1)=false:=by rw [beq_eq_false_iff_ne]; omega
  have e2:(p == 2)=false:=by rw [beq_eq_false_iff_ne]; omega
  have e3:(p == 3)=false:=by rw [beq_eq_false_iff_ne]; omega
  have e4:(p == 4)=false:=by rw [beq_eq_false_iff_ne]; omega
  have e5:(p == 5)=false:=by rw [beq_eq_false_iff_ne]; omega
  have e6:(p == 6)=false:=by rw [beq_eq_false_iff_ne]; omega
  have e7:(p == 7)=false:=by rw [beq_eq_false_iff_ne]; omega
  have e8:(p == 8)=false:=by rw [beq_eq_false_iff_ne]; omega
  clear hp
  go_enter Tryz.func123,Tryz.ntmps123
  go_wp2
  go_ret
  rw [HR.out]
  exact ⟨rfl,HB.out⟩
theorem refVright8_any (p k n:Int) (t:ByteArray) (w:World) (ht:t.size≤4611686018427387904):Calls Tryz.prog 88 #[.int .i64 p,.agg #[.int .i64 k,.int .i64 n,.string t]] w fun e w'=>e=.returned (.bool (right8V p k n t.data.toList))∧Below w.heap.size w w':=by
 have hb:=(Below.refl w.heap.size w).alloc (Nat.le_refl _) (.cells #[.int .i64 k,.int .i64 n,.string t] 53)
 have HB:=Hi hb
 have HT:=Hi (ThreeAt.start w k n t)
 clear hb
 by_cases hp:1≤p∧p≤8
 ·have HR:=Hi (show right8V p k n t.data.toList=(Vm.rightV k n t.data.toList && decide (k=kindOf p∨k=0)) by unfold right8V; rw [decide_eq_true hp]; rfl)
  cases hr:Vm.rightV k n t.data.toList with
  | false =>
   have HRB:=Hi hr
   clear hr
   have hc:p=1∨p=2∨p=3∨p=4∨p=5∨p=6∨p=7∨p=8:=by omega
   clear hp
   rcases hc with rfl | rfl | rfl | rfl | rfl | rfl | rfl | rfl
   all_goals
    go_enter Tryz.func88,Tryz.ntmps88
    go_wp2_with fail
    refine (refVRight_any k n t _ ht).mono ?_
    rw [HRB.out]
    rintro e w1 ⟨rfl,hb1⟩
    have HB1:=Hi (HB.out.trans (hb1.mono HB.out.size))
    clear hb1
    go_wp2
    go_ret
    rw [HR.out,HRB.out]
    exact ⟨rfl,HB1.out⟩
  | true =>
   have HRB:=Hi hr
   clear hr
   by_cases h0:k=0
   ·have HD:=Hi (show decide (k=kindOf p∨k=0)=true from decide_eq_true (Or.inr h0))
    subst h0
    have hc:p=1∨p=2∨p=3∨p=4∨p=5∨p=6∨p=7∨p=8:=by omega
    clear hp
    rcases hc with rfl | rfl | rfl | rfl | rfl | rfl | rfl | rfl
    all_goals
     go_enter Tryz.func88,Tryz.ntmps88
     go_wp2_with fail
     refine (refVRight_any _ n t _ ht).mono ?_
     rw [HRB.out]
     rintro e w1 ⟨rfl,hb1⟩
     have HB1:=Hi (HB.out.trans (hb1.mono HB.out.size))
     have x0:=(HT.out.kept hb1).cell0
     clear hb1
     go_wp2
     go_ret
     rw [HR.out,HRB.out,HD.out]
     exact ⟨ret_bool (by simp),HB1.out⟩
   ·have e0:(k == 0)=false:=by simpa using h0
    have hc:p=1∨p=2∨p=3∨p=4∨p=5∨p=6∨p=7∨p=8:=by omega
    clear hp
    rcases hc with rfl | hc
    ·by_cases hk:k=4
     ·have HD:=Hi (show decide (k=kindOf 1∨k=0)=true from decide_eq_true (Or.inl hk))
      subst hk
      clear h0 e0
      go_enter Tryz.func88,Tryz.ntmps88
      go_wp2_with fail
      refine (refVRight_any _ n t _ ht).mono ?_
      rw [HRB.out]
      rintro e w1 ⟨rfl,hb1⟩
      have HB1:=Hi (HB.out.trans (hb1.mono HB.out.size))
      have x0:=(HT.out.kept hb1).cell0
      clear hb1
      go_wp2
      go_ret
      rw [HR.out,HRB.out,HD.out]
      exact ⟨ret_bool (by simp),HB1.out⟩
     ·have HD:=Hi (show decide (k=kindOf 1∨k=0)=false from decide_eq_false (by rw [show kindOf 1=4 from by decide]; omega))
      have e1:(k == 4)=false:=by simpa using hk
      clear h0 hk
      go_enter Tryz.func88,Tryz.ntmps88
      go_wp2_with fail
      refine (refVRight_any _ n t _ ht).mono ?_
      rw [HRB.out]
      rintro e w1 ⟨rfl,hb1⟩
      have HB1:=Hi (HB.out.trans (hb1.mono HB.out.size))
      have x0:=(HT.out.kept hb1).cell0
      clear hb1
      go_wp2
      go_ret
      rw [HR.out,HRB.out,HD.out]
      exact ⟨ret_bool (by simp),HB1.out⟩
    rcases hc with rfl | hc
    ·by_cases hk:k=4
     ·have HD:=Hi (show decide (k=kindOf 2∨k=0)=true from decide_eq_true (Or.inl hk))
      subst hk
      clear h0 e0
      go_enter Tryz.func88,Tryz.ntmps88
      go_wp2_with fail
      refine (refVRight_any _ n t _ ht).mono ?_
      rw [HRB.out]
      rintro e w1 ⟨rfl,hb1⟩
      have HB1:=Hi (HB.out.trans (hb1.mono HB.out.size))
      have x0:=(HT.out.kept hb1).cell0
      clear hb1
      go_wp2
      go_ret
      rw [HR.out,HRB.out,HD.out]
      exact ⟨ret_bool (by simp),HB1.out⟩
     ·have HD:=Hi (show decide (k=kindOf 2∨k=0)=false from decide_eq_false (by rw [show kindOf 2=4 from by decide]; omega))
      have e1:(k == 4)=false:=by simpa using hk
      clear h0 hk
      go_enter Tryz.func88,Tryz.ntmps88
      go_wp2_with fail
      refine (refVRight_any _ n t _ ht).mono ?_
      rw [HRB.out]
      rintro e w1 ⟨rfl,hb1⟩
      have HB1:=Hi (HB.out.trans (hb1.mono HB.out.size))
      have x0:=(HT.out.kept hb1).cell0
      clear hb1
      go_wp2
      go_ret
      rw [HR.out,HRB.out,HD.out]
      exact ⟨ret_bool (by simp),HB1.out⟩
    rcases hc with rfl | hc
    ·by_cases hk:k=3
     ·have HD:=Hi (show decide (k=kindOf 3∨k=0)=true from decide_eq_true (Or.inl hk))
      subst hk
      clear h0 e0
      go_enter Tryz.func88,Tryz.ntmps88
      go_wp2_with fail
      refine (refVRight_any _ n t _ ht).mono ?_
      rw [HRB.out]
      rintro e w1 ⟨rfl,hb1⟩
      have HB1:=Hi (HB.out.trans (hb1.mono HB.out.size))
      have x0:=(HT.out.kept hb1).cell0
      clear hb1
      go_wp2
      go_ret
      rw [HR.out,HRB.out,HD.out]
      exact ⟨ret_bool (by simp),HB1.out⟩
     ·have HD:=Hi (show decide (k=kindOf 3∨k=0)=false from decide_eq_false (by rw [show kindOf 3=3 from by decide]; omega))
      have e1:(k == 3)=false:=by simpa using hk
      clear h0 hk
      go_enter Tryz.func88,Tryz.ntmps88
      go_wp2_with fail
      refine (refVRight_any _ n t _ ht).mono ?_
      rw [HRB.out]
      rintro e w1 ⟨rfl,hb1⟩
      have HB1:=Hi (HB.out.trans (hb1.mono HB.out.size))
      have x0:=(HT.out.kept hb1).cell0
      clear hb1
      go_wp2
      go_ret
      rw [HR.out,HRB.out,HD.out]
      exact ⟨ret_bool (by simp),HB1.out⟩
    rcases hc with rfl | hc
    ·by_cases hk:k=2
     ·have HD:=Hi (show decide (k=kindOf 4∨k=0)=true from decide_eq_true (Or.inl hk))
      subst hk
      clear h0 e0
      go_enter Tryz.func88,Tryz.ntmps88
      go_wp2_with fail
      refine (refVRight_any _ n t _ ht).mono ?_
      rw [HRB.out]
      rintro e w1 ⟨rfl,hb1⟩
      have HB1:=Hi (HB.out.trans (hb1.mono HB.out.size))
      have x0:=(HT.out.kept hb1).cell0
      clear hb1
      go_wp2
      go_ret
      rw [HR.out,HRB.out,HD.out]
      exact ⟨ret_bool (by simp),HB1.out⟩
     ·have HD:=Hi (show decide (k=kindOf 4∨k=0)=false from decide_eq_false (by rw [show kindOf 4=2 from by decide]; omega))
      have e1:(k == 2)=false:=by simpa using hk
      clear h0 hk
      go_enter Tryz.func88,Tryz.ntmps88
      go_wp2_with fail
      refine (refVRight_any _ n t _ ht).mono ?_
      rw [HRB.out]
      rintro e w1 ⟨rfl,hb1⟩
      have HB1:=Hi (HB.out.trans (hb1.mono HB.out.size))
      have x0:=(HT.out.kept hb1).cell0
      clear hb1
      go_wp2
      go_ret
      rw [HR.out,HRB.out,HD.out]
      exact ⟨ret_bool (by simp),HB1.out⟩
    rcases hc with rfl | hc
    ·by_cases hk:k=2
     ·have HD:=Hi (show decide (k=kindOf 5∨k=0)=true from decide_eq_true (Or.inl hk))
      subst hk
      clear h0 e0
      go_enter Tryz.func88,Tryz.ntmps88
      go_wp2_with fail
      refine (refVRight_any _ n t _ ht).mono ?_
      rw [HRB.out]
      rintro e w1 ⟨rfl,hb1⟩
      have HB1:=Hi (HB.out.trans (hb1.mono HB.out.size))
      have x0:=(HT.out.kept hb1).cell0
      clear hb1
      go_wp2
      go_ret
      rw [HR.out,HRB.out,HD.out]
      exact ⟨ret_bool (by simp),HB1.out⟩
     ·have HD:=Hi (show decide (k=kindOf 5∨k=0)=false from decide_eq_false (by rw [show kindOf 5=2 from by decide]; omega))
      have e1:(k == 2)=false:=by simpa using hk
      clear h0 hk
      go_enter Tryz.func88,Tryz.ntmps88
      go_wp2_with fail
      refine (refVRight_any _ n t _ ht).mono ?_
      rw [HRB.out]
      rintro e w1 ⟨rfl,hb1⟩
      have HB1:=Hi (HB.out.trans (hb1.mono HB.out.size))
      have x0:=(HT.out.kept hb1).cell0
      clear hb1
      go_wp2
      go_ret
      rw [HR.out,HRB.out,HD.out]
      exact ⟨ret_bool (by simp),HB1.out⟩
    rcases hc with rfl | hc
    ·by_cases hk:k=2
     ·have HD:=Hi (show decide (k=kindOf 6∨k=0)=true from decide_eq_true (Or.inl hk))
      subst hk
      clear h0 e0
      go_enter Tryz.func88,Tryz.ntmps88
      go_wp2_with fail
      refine (refVRight_any _ n t _ ht).mono ?_
      rw [HRB.out]
      rintro e w1 ⟨rfl,hb1⟩
      have HB1:=Hi (HB.out.trans (hb1.mono HB.out.size))
      have x0:=(HT.out.kept hb1).cell0
      clear hb1
      go_wp2
      go_ret
      rw [HR.out,HRB.out,HD.out]
      exact ⟨ret_bool (by simp),HB1.out⟩
     ·have HD:=Hi (show decide (k=kindOf 6∨k=0)=false from decide_eq_false (by rw [show kindOf 6=2 from by decide]; omega))
      have e1:(k == 2)=false:=by simpa using hk
      clear h0 hk
      go_enter Tryz.func88,Tryz.ntmps88
      go_wp2_with fail
      refine (refVRight_any _ n t _ ht).mono ?_
      rw [HRB.out]
      rintro e w1 ⟨rfl,hb1⟩
      have HB1:=Hi (HB.out.trans (hb1.mono HB.out.size))
      have x0:=(HT.out.kept hb1).cell0
      clear hb1
      go_wp2
      go_ret
      rw [HR.out,HRB.out,HD.out]
      exact ⟨ret_bool (by simp),HB1.out⟩
    rcases hc with rfl | hc
    ·by_cases hk:k=2
     ·have HD:=Hi (show decide (k=kindOf 7∨k=0)=true from decide_eq_true (Or.inl hk))
      subst hk
      clear h0 e0
      go_enter Tryz.func88,Tryz.ntmps88
      go_wp2_with fail
      refine (refVRight_any _ n t _ ht).mono ?_
      rw [HRB.out]
      rintro e w1 ⟨rfl,hb1⟩
      have HB1:=Hi (HB.out.trans (hb1.mono HB.out.size))
      have x0:=(HT.out.kept hb1).cell0
      clear hb1
      go_wp2
      go_ret
      rw [HR.out,HRB.out,HD.out]
      exact ⟨ret_bool (by simp),HB1.out⟩
     ·have HD:=Hi (show decide (k=kindOf 7∨k=0)=false from decide_eq_false (by rw [show kindOf 7=2 from by decide]; omega))
      have e1:(k == 2)=false:=by simpa using hk
      clear h0 hk
      go_enter Tryz.func88,Tryz.ntmps88
      go_wp2_with fail
      refine (refVRight_any _ n t _ ht).mono ?_
      rw [HRB.out]
      rintro e w1 ⟨rfl,hb1⟩
      have HB1:=Hi (HB.out.trans (hb1.mono HB.out.size))
      have x0:=(HT.out.kept hb1).cell0
      clear hb1
      go_wp2
      go_ret
      rw [HR.out,HRB.out,HD.out]
      exact ⟨ret_bool (by simp),HB1.out⟩
    subst hc
    by_cases hk:k=1
    ·have HD:=Hi (show decide (k=kindOf 8∨k=0)=true from decide_eq_true (Or.inl hk))
     subst hk
     clear h0 e0
     go_enter Tryz.func88,Tryz.ntmps88
     go_wp2_with fail
     refine (refVRight_any _ n t _ ht).mono ?_
     rw [HRB.out]
     rintro e w1 ⟨rfl,hb1⟩
     have HB1:=Hi (HB.out.trans (hb1.mono HB.out.size))
     have x0:=(HT.out.kept hb1).cell0
     clear hb1
     go_wp2
     go_ret
     rw [HR.out,HRB.out,HD.out]
     exact ⟨ret_bool (by simp),HB1.out⟩
    ·have HD:=Hi (show decide (k=kindOf 8∨k=0)=false from decide_eq_false (by rw [show kindOf 8=1 from by decide]; omega))
     have e1:(k == 1)=false:=by simpa using hk
     clear h0 hk
     go_enter Tryz.func88,Tryz.ntmps88
     go_wp2_with fail
     refine (refVRight_any _ n t _ ht).mono ?_
     rw [HRB.out]
     rintro e w1 ⟨rfl,hb1⟩
     have HB1:=Hi (HB.out.trans (hb1.mono HB.out.size))
     have x0:=(HT.out.kept hb1).cell0
     clear hb1
     go_wp2
     go_ret
     rw [HR.out,HRB.out,HD.out]
     exact ⟨ret_bool (by simp),HB1.out⟩
 ·have HR:=Hi (show right8V p k n t.data.toList=false by unfold right8V; rw [decide_eq_false hp]; rfl)
  have e1:(p == 1)=false:=by rw [beq_eq_false_iff_ne]; omega
  have e2:(p == 2)=false:=by rw [beq_eq_false_iff_ne]; omega
  have e3:(p == 3)=false:=by rw [beq_eq_false_iff_ne]; omega
  have e4:(p == 4)=false:=by rw [beq_eq_false_iff_ne]; omega
  have e5:(p == 5)=false:=by rw [beq_eq_false_iff_ne]; omega
  have e6:(p == 6)=false:=by rw [beq_eq_false_iff_ne]; omega
  have e7:(p == 7)=false:=by rw [beq_eq_false_iff_ne]; omega
  have e8:(p == 8)=false:=by rw [beq_eq_false_iff_ne]; omega
  clear hp
  go_enter Tryz.func88,Tryz.ntmps88
  go_wp2
  go_ret
  rw [HR.out]
  exact ⟨rfl,HB.out⟩
end Go.Proofs.YtfgnmnkihbgjnaaGreat

/-
  THE REFERENCE's WRITING: ref.Num, ref.Text, ref.Frame: new memory with the document's bytes, nil where there are none.
-/
import Derived.Test.YtfgnmnkihbgjnaaGreatSh
import Derived.Test.YtfgnmnkihbgjnaaGreatGA
set_option maxRecDepth 100000
set_option maxHeartbeats 1000000
namespace Go.Proofs.YtfgnmnkihbgjnaaGreat
open Go.RowKit
theorem be_cons (j n:Nat):Wm.be (j+1) n=UInt8.ofNat (n / 256 ^ j % 256) :: Wm.be j n:=by
 induction j generalizing n with
 | zero=>simp [Wm.be]
 | succ j ih =>
  rw [Wm.be,ih,Wm.be,Nat.div_div_eq_div_mul,Nat.pow_succ,Nat.mul_comm 256]
  simp
def MadeB (E:TypeId) (w:World) (l:List UInt8) (e:Ending) (w':World):Prop :=
 ∃ v,e=.returned v∧Own E w' w.heap.size v l∧Below w.heap.size w w'
theorem refNum_any (n:Int) (w:World):Calls Tryz.prog 91 #[.int .i64 n] w (MadeB 5 w (numW n).1):=by
 obtain ⟨i0,hi,hz0,hz1,hz2⟩:=info_parts info_u8
 by_cases h0:n<0
 ·have hf:=Hi (show numW n=([],30) by unfold numW; rw [if_neg (by omega)])
  go_enter Tryz.func91,Tryz.ntmps91
  go_wp2
  go_ret
  rw [hf.out]
  exact ⟨_,rfl,Own.nil _ _ _,Below.refl _ _⟩
 ·by_cases h1:281474976710655<n
  ·have hf:=Hi (show numW n=([],30) by unfold numW; rw [if_neg (by omega)])
   go_enter Tryz.func91,Tryz.ntmps91
   go_wp2
   go_ret
   rw [hf.out]
   exact ⟨_,rfl,Own.nil _ _ _,Below.refl _ _⟩
  ·obtain ⟨m,rfl⟩:=Int.eq_ofNat_of_zero_le (show 0≤n by omega)
   have hf:=Hi (show numW (m:Int)=(Wm.numB m,0) by unfold numW; rw [if_pos (by omega),Int.toNat_natCast])
   go_enter Tryz.func91,Tryz.ntmps91
   go_wp2
   go_loopw [0,3] (fun q v wr=>∃ j:Nat,q=.int .i64 (m / 256 ^ j:Nat)∧j≤6∧Wm.nlen m=j+Wm.nlen (m / 256 ^ j)∧Own 5 wr w.heap.size v (Wm.be j m)∧Below w.heap.size w wr) (fun q _ _=>(intOf q).toNat)
   case atStart=>exact ⟨0,by simp,by omega,by simp,Own.nil _ _ _,Below.refl _ _⟩
   case round =>
    obtain ⟨j,rfl,hj,hnl,hown,hbw⟩:=hrel
    have hsz:=hbw.size
    have hle:=Wm.nlen_le m
    have hqm:m / 256 ^ j≤m:=Nat.div_le_self _ _
    have hbe:(Wm.be j m).length=j:=Wm.be_length j m
    obtain ⟨p,c,rfl,hbs,hc,hcm,hpn,-⟩:=hown.bs
    by_cases hq:m / 256 ^ j=0
    ·have hjm:Wm.nlen m=j:=by rw [hnl,hq]; rfl
     have hfin:Hid (UInt8.ofNat j :: Wm.be j m=Wm.numB m):=by show UInt8.ofNat j :: Wm.be j m=Wm.numB m; unfold Wm.numB; rw [hjm]
     rw [hq]
     clear hnl hqm hq hjm hle hown
     generalize hys:Wm.be j m=ys at *
     have HYS:=Hi hys
     have HBE:=Hi hbe
     have hyl:ys.length≤6:=by omega
     have HO:=Hi (Own.base (Own.lit (E:=5) wr #[.int .u8 (ys.length:Int)] [UInt8.ofNat j] (by simp [vals,hbe]; omega) (by simp [maxLen])) hsz)
     have HB:=Hi (hbs.kept (Below.alloc (Below.refl wr.heap.size wr) (Nat.le_refl _) (.cells #[.int .u8 (ys.length:Int)] 5)))
     have hbw2:=hbw.alloc hsz (.cells #[.int .u8 (ys.length:Int)] 5)
     clear hys hbe hbs hbw
     go_wp2_with (at_builtin; refine wpList_append_bs rfl _ _ 103 rfl w.heap.size 5 i0 Tryz.underlying103 hi hz0 hz1 hz2 _ _ rfl HO.out p c ys rfl HB.out hpn ?b1 ?b2 ?_)
     case b1=>simp; omega
     case b2=>simp; omega
     intro v1 w1 hown1 hbel1 hgrow1 hnil1
     clear hgrow1 hnil1
     go_wp2
     go_ret
     rw [hf.out]
     rw [show (Wm.numB m,0).fst=UInt8.ofNat j :: ys from hfin.out.symm]
     exact ⟨_,rfl,hown1,hbw2.trans hbel1⟩
    ·have hqs:Wm.nlen (m / 256 ^ j)=Wm.nlen (m / 256 ^ j / 256)+1:=Wm.nlen_step _ hq (Nat.lt_of_le_of_lt hqm (by omega))
     have hdd:m / 256 ^ j / 256=m / 256 ^ (j+1):=by rw [Nat.div_div_eq_div_mul,Nat.pow_succ]
     have hnl2:Hid (Wm.nlen m=j+1+Wm.nlen (m / 256 ^ (j+1))):=by show Wm.nlen m=j+1+Wm.nlen (m / 256 ^ (j+1)); rw [← hdd]; omega
     have hj5:j≤5:=by omega
     have hcons:Hid (Wm.be (j+1) m=UInt8.ofNat (m / 256 ^ j % 256) :: Wm.be j m):=be_cons j m
     have HDD:=Hi hdd
     have hq1:1≤m / 256 ^ j:=Nat.pos_of_ne_zero hq
     clear hnl hqs hdd hle hown hq
     generalize m / 256 ^ j=q at *
     generalize Wm.be j m=ys at *
     have hyl:ys.length≤6:=by omega
     have HO:=Hi (Own.base (Own.lit (E:=5) wr #[.int .u8 ((q:Int) % 256)] [UInt8.ofNat (q % 256)] (by simp [vals]) (by simp [maxLen])) hsz)
     have HB:=Hi (hbs.kept (Below.alloc (Below.refl wr.heap.size wr) (Nat.le_refl _) (.cells #[.int .u8 ((q:Int) % 256)] 5)))
     have hbw2:=hbw.alloc hsz (.cells #[.int .u8 ((q:Int) % 256)] 5)
     clear hbe hbs hbw
     go_wp2_with (at_builtin; refine wpList_append_bs rfl _ _ 103 rfl w.heap.size 5 i0 Tryz.underlying103 hi hz0 hz1 hz2 _ _ rfl HO.out p c ys rfl HB.out hpn ?c1 ?c2 ?_)
     case c1=>simp; omega
     case c2=>simp; omega
     intro v1 w1 hown1 hbel1 hgrow1 hnil1
     clear hgrow1 hnil1
     go_wp2
     go_roundw
     case rel=>exact ⟨j+1,by rw [← HDD.out]; go_num,by omega,hnl2.out,by rw [hcons.out]; exact hown1,hbw2.trans hbel1⟩
     case measure=>simp [intOf]; omega
theorem refText_any (s:ByteArray) (w:World) (hs:s.size≤maxLen):Calls Tryz.prog 112 #[.string s] w (MadeB 5 w (textW s.data.toList).1):=by
 unfold maxLen at hs
 have hsl:s.data.toList.length=s.size:=by rw [Array.length_toList]; rfl
 obtain ⟨i0,hi,hz0,hz1,hz2⟩:=info_parts info_u8
 by_cases h1:1048576<s.size
 ·have hf:=Hi (show textW s.data.toList=([],6) by unfold textW; rw [if_neg (by omega)])
  clear hsl
  go_enter Tryz.func112,Tryz.ntmps112
  go_wp2
  go_ret
  rw [hf.out]
  exact ⟨_,rfl,Own.nil _ _ _,Below.refl _ _⟩
 ·have hf:=Hi (show textW s.data.toList=(Wm.numB s.size ++ s.data.toList,0) by unfold textW; rw [if_pos (by omega),hsl])
  have hn:numW (s.size:Int)=(Wm.numB s.size,0):=by unfold numW; rw [if_pos (by omega),Int.toNat_natCast]
  have hN:=Hi (hn ▸ refNum_any (s.size:Int) w)
  clear hsl hn
  go_enter Tryz.func112,Tryz.ntmps112
  go_wp2_with fail
  refine hN.out.mono ?_
  rintro e w1 ⟨v1,rfl,hown,hbw⟩
  have hsz:=hbw.size
  have hown':Own 5 w1 w.heap.size v1 (Wm.numB s.size):=hown
  clear hown
  have hnl:=numB_small s.size
  go_wp2_with (at_builtin; refine wpList_append_str rfl _ _ 103 9 rfl w.heap.size 5 i0 Tryz.underlying103 Tryz.underlying9 hi hz0 hz1 hz2 _ (Wm.numB s.size) rfl hown' s rfl ?c1 ?c2 ?_)
  case c1=>omega
  case c2=>exact hsz
  intro v2 w2 hown2 hbel2 hnil2
  clear hnil2
  go_wp2
  go_ret
  rw [hf.out]
  exact ⟨_,rfl,hown2,hbw.trans hbel2⟩
end Go.Proofs.YtfgnmnkihbgjnaaGreat

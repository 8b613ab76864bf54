import Derived.Test.YtpljdjmpamjkhaaGreatDoorXav
set_option linter.unusedVariables false
set_option linter.unusedSimpArgs false
set_option maxRecDepth 100000
set_option maxHeartbeats 4000000
namespace Go.Proofs.YtpljdjmpamjkhaaGreatDoor
open Go.RowKit Go.Lib
theorem Fs{w:World}{v:Value}{l:List Nat}(hs:SvK w v l)(h8:Bs l)(c:Nat)(hc:c<4294967296) :
  Calls Tryz.prog 75 #[.int .u32 (c:Int),v] w fun e w'=>e=.returned (.int .u32 ((ni c l:Nat):Int))/\w'=w:=by
 obtain⟨a,cap,rfl,h1,h2,_,eQ⟩:=hs;have py:l.length<=9223372036854775807:=by unfold maxLen at h2;omega
 have HC:=ae eQ;have H8:=ae h8;have VR:bits .xor .u32 (c:Int) 4294967295=((c ^^^ 4294967295:Nat):Int):=u32_xor_nat c 4294967295 hc (by omega);have yw:c ^^^ 4294967295<4294967296:=kE hc (by omega);have HE:jfp (ni c l=run (c ^^^ 4294967295) l ^^^ 4294967295):=ae rfl;generalize ni c l=R at *;generalize c ^^^ 4294967295=s0 at *;clear eQ h8 h1 h2;go_enter Tryz.func75,Tryz.ntmps75
 go_wp2_with fail;go_loopw [0,5] (fun st i w'=>w'=w/\∃ k:Nat,k<=l.length/\i=.int .i64 (k:Int)/\st=.int .u32 ((run s0 (l.take k):Nat):Int)) (fun _ i _=>l.length-(intOf i).toNat)
 case atStart=>exact⟨rfl,0,by omega,rfl,rfl⟩
 case round =>
  obtain⟨rfl,k,hk,rfl,rfl⟩:=hrel;by_cases aB:k<l.length
  ·obtain⟨b,off,rfl,hb,br⟩:=HC.o (by omega)
   have ek:=br k aB;have hx8:=H8.o.get aB;have fG:run s0 (l.take k)<4294967296:=sT yw (H8.o.take k);have HN:jfp (run s0 (l.take (k+1))=ez 8 (run s0 (l.take k) ^^^ l[k])):=ae (Ee aB);clear br;generalize l[k]=x at *;generalize run s0 (l.take k)=s at *;have Wa:=u32_xor_nat s x fG (by omega);have yv:s ^^^ x<4294967296:=kE fG (by omega);generalize s ^^^ x=y at *;go_wp2_with fail;go_loopw [0,6] (fun st i w'=>w'=wr/\∃ j:Nat,j<=8/\i=.int .i64 (j:Int)/\st=.int .u32 ((ez j y:Nat):Int)) (fun _ i _=>8-(intOf i).toNat)
   case atStart=>exact⟨rfl,0,by omega,rfl,rfl⟩
   case round =>
    obtain⟨rfl,j,hj,rfl,rfl⟩:=hrel;by_cases Qs:j<8
    ·have hzl:ez j y<4294967296:=ro j yv
     have HSt:=ae (Ny j y);generalize ez j y=z at *
     have hand:bits .and .u32 (z:Int) 1=((z % 2:Nat):Int):=by
      have:=u32_and_nat z 1 hzl (by omega);rw[nat_mask1]at this;exact this
     have hdv:(z:Int) / 2=((z / 2:Nat):Int):=(by omega);have hxp:=u32_xor_nat (z / 2) 3988292384 (by omega) (by omega);have hjj:(j:Int)<8:=(by omega);by_cases hr:z % 2=1
     ·have gl:jfp (stp z=z / 2 ^^^ 3988292384):=by show _=_;unfold stp;rw[jdu hr]
      rw[hr]at hand;have hxp':bits .xor .u32 ((z / 2:Nat):Int) 3988292384=((z / 2 ^^^ 3988292384:Nat):Int):=hxp;clear hxp hr;generalize z / 2 ^^^ 3988292384=q at *;generalize z / 2=h at *;go_wp2_with fail;go_roundw
      case rel=>exact⟨trivial,j+1,by omega,by go_num,by rw[HSt.o,gl.o]⟩
      case measure=>simp[intOf];omega
     ·have ZP:z % 2=0:=by omega
      have gl:jfp (stp z=z / 2):=by show _=_;unfold stp;rw[jdt hr,Nat.xor_zero]
      rw[ZP]at hand;clear hxp hr ZP;generalize z / 2=h at *;go_wp2_with fail;go_roundw
      case rel=>exact⟨trivial,j+1,by omega,by go_num,by rw[HSt.o,gl.o]⟩
      case measure=>simp[intOf];omega
    ·obtain rfl:j=8:=by omega
     obtain⟨Z,hZ⟩:∃ Z,run s0 (l.take (k+1))=Z:=⟨_,rfl⟩;rw[← HN.o,hZ];have HZ:=ae hZ;clear HN hZ;go_wp2_with fail;go_roundw
     case rel=>exact⟨trivial,k+1,by omega,by go_num,by rw[HZ.o]⟩
     case measure=>simp[intOf];omega
  ·obtain rfl:k=l.length:=by omega
   rw[jdE];have fG:run s0 l<4294967296:=sT yw H8.o;have Wa:=u32_xor_nat (run s0 l) 4294967295 fG (by omega);rw[← HE.o]at Wa;have hxx':bits .xor .u32 ((run s0 l:Nat):Int) 4294967295=(R:Int):=Wa;clear Wa;generalize run s0 l=s at *;go_wp2_with fail;go_ret
   exact⟨rfl,rfl⟩
def tm:Nat->Nat->List Nat
 | 0,_=>[]
 | k+1,c=>tm k c++[c / 256 ^ k % 256]
theorem Uo(c:Nat):tm 4 c=le4 c:=by
 simp[tm,le4]
theorem ug:∀ k c,(tm k c).length=k
 | 0,_=>rfl
 | k+1,c=>by rw[tm,jdy,ug k c];rfl
theorem Up(w:World)(d:Nat):aD (w.alloc (.cells #[.int .u8 (d:Int)] 5)) w.heap.size (.slice (some ⟨w.heap.size,0,none⟩) 1 1) [d]:=ot w [d] (by unfold maxLen;simp)
theorem Ft{w:World}{v:Value}{l:List Nat}(hs:SvK w v l)(h8:Bs l)(hl:l.length<=100000000) :
  Calls Tryz.prog 32 #[v] w (dw w (bX l)):=by
 have HS:=ae hs;have H8:=ae h8;have HE:jfp (bX l=l++tm 4 (ni 0 l)):=by show _=_;rw[Uo];rfl
 have hc:=uQ (c:=0) (by omega) h8;have HM:=ae (fun(W:World) (h:SvK W v l)=>Fs h H8.o 0 (by omega));obtain⟨a,cap,rfl,h1,h2⟩:=hs.form;clear hs h8 h1 h2;generalize ni 0 l=c at *;have HN:=ae (aD.nil w w.heap.size);go_enter Tryz.func32,Tryz.ntmps32
 go_wp2_with (first | (at_builtin;refine ef rfl _ _ rfl w.heap.size _ _ [] l rfl ?q1 rfl ?q2 ?c1 ?c2 ?_))
 case q1=>exact HN.o
 case q2=>exact HS.o
 case c1=>simp;omega
 case c2=>omega
 intro v1 w1 o1 aH;have o1':aD w1 w.heap.size v1 l:=o1;have eY:=ae o1';have aQ:=ae aH;have Qa:=ae (HM.o w1 (HS.o.kept aH));clear o1 o1' aH;go_wp2_with fail;refine Qa.o.mono ?_;rintro e w2 ⟨rfl,rfl⟩;go_wp2_with fail;go_loopw [3,4,5] (fun out s i wr=>∃ k:Nat,k<=4/\i=.int .i64 (k:Int)/\s=.int .u32 ((c / 256 ^ k:Nat):Int)/\aD wr w.heap.size out (l++tm k c)/\Below w.heap.size w wr) (fun _ _ i _=>4-(intOf i).toNat)
 case atStart=>exact⟨0,by omega,rfl,by simp,by rw[tm,jdT];exact eY.o,aQ.o⟩
 case round =>
  obtain⟨k,hk,rfl,rfl,how,az⟩:=hrel;have HB:=ae az;have jw:=az.size;by_cases aB:k<4
  ·have FV:(k:Int)<4:=by omega
   have hq:((c / 256 ^ k:Nat):Int) / 256=((c / 256 ^ k / 256:Nat):Int):=(by omega);have hw8:=Ef (c / 256 ^ k);have HD:jfp (l++tm (k+1) c=l++tm k c++[c / 256 ^ k % 256]):=by show _=_;rw[tm,jdL]
   have HQ:jfp (c / 256 ^ (k+1)=c / 256 ^ k / 256):=by show _=_;rw[Nat.pow_succ,jfm]
   have hzl:c / 256 ^ k<4294967296:=jfe (Nat.div_le_self _ _) hc;have BX:jfp ((l++tm k c).length<=100000004):=by show _<=_;rw[jdy,ug];omega
   have HL:=ae (Up wr (c / 256 ^ k % 256));have HO:=ae (how.kept (dt wr (.cells #[.int .u8 ((c / 256 ^ k % 256:Nat):Int)] 5)));have fd:=ae (HB.o.trans ((dt wr (.cells #[.int .u8 ((c / 256 ^ k % 256:Nat):Int)] 5)).mono jw));have HD':=HD;generalize l++tm k c=m at *;generalize c / 256 ^ k % 256=d at *;generalize c / 256 ^ k / 256=z2 at *;generalize c / 256 ^ k=z at *;clear how az;go_wp2_with (first | (at_builtin;refine ef rfl _ _ rfl w.heap.size _ _ m [d] rfl ?q3 rfl ?q4 ?c3 ?c4 ?_))
   case q3=>exact HO.o
   case q4=>exact HL.o.svK
   case c3=>have:=BX.o;simp;omega
   case c4=>rw[jdx];omega
   intro v3 w3 o3 aS;rw[← HD.o]at o3;have dh:=ae o3;have bP:=ae (fd.o.trans aS);clear o3 aS;go_wp2_with fail;go_roundw
   case rel=>exact⟨k+1,by omega,by go_num,by rw[HQ.o],dh.o,bP.o⟩
   case measure=>simp[intOf];omega
  ·obtain rfl:k=4:=by omega
   rw[← HE.o]at how;have HO:=ae how;clear how az;generalize c / 256 ^ 4=z at *;go_wp2_with fail;go_ret
   exact⟨⟨_,rfl,HO.o⟩,HB.o⟩
end Go.Proofs.YtpljdjmpamjkhaaGreatDoor

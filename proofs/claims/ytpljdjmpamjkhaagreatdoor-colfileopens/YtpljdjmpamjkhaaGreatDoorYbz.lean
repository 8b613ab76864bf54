import Derived.Test.YtpljdjmpamjkhaaGreatDoorYay
set_option linter.unusedVariables false
set_option linter.unusedSimpArgs false
set_option maxRecDepth 100000
set_option maxHeartbeats 4000000
namespace Go.Proofs.YtpljdjmpamjkhaaGreatDoor
open Go.RowKit Go.Lib
theorem Ek{w:World}{v:Value}{l:List Nat}(hs:SvK w v l)(h8:Bs l)(c:Nat)(hc:c<4294967296) :
  Calls Tryz.prog 75 #[.int .u32 (c:Int),v] w fun e w'=>e=.returned (.int .u32 ((mQ c l:Nat):Int))/\w'=w:=by
 obtain⟨a,cap,rfl,h1,h2,_,eO⟩:=hs;have oI:l.length<=9223372036854775807:=by unfold maxLen at h2;omega
 have HC:=ae eO;have H8:=ae h8;have SL:bits .xor .u32 (c:Int) 4294967295=((c ^^^ 4294967295:Nat):Int):=u32_xor_nat c 4294967295 hc (by omega);have yb:c ^^^ 4294967295<4294967296:=kq hc (by omega);have HE:Hid (mQ c l=run (c ^^^ 4294967295) l ^^^ 4294967295):=ae rfl;generalize mQ c l=R at *;generalize c ^^^ 4294967295=s0 at *;clear eO h8 h1 h2;go_enter Tryz.func75,Tryz.ntmps75
 go_wp2_with fail;go_loopw [0,5] (fun st i w'=>w'=w/\∃ k:Nat,k<=l.length/\i=.int .i64 (k:Int)/\st=.int .u32 ((run s0 (l.take k):Nat):Int)) (fun _ i _=>l.length-(intOf i).toNat)
 case atStart=>exact⟨rfl,0,by omega,rfl,rfl⟩
 case round =>
  obtain⟨rfl,k,hk,rfl,rfl⟩:=hrel;by_cases aB:k<l.length
  ·obtain⟨b,off,rfl,hb,bo⟩:=HC.out (by omega)
   have dP:=bo k aB;have hx8:=H8.out.get aB;have fo:run s0 (l.take k)<4294967296:=sC yb (H8.out.take k);have HN:Hid (run s0 (l.take (k+1))=ew 8 (run s0 (l.take k) ^^^ l[k])):=ae (Dr aB);clear bo;generalize l[k]=x at *;generalize run s0 (l.take k)=s at *;have SY:=u32_xor_nat s x fo (by omega);have ya:s ^^^ x<4294967296:=kq fo (by omega);generalize s ^^^ x=y at *;go_wp2_with fail;go_loopw [0,6] (fun st i w'=>w'=wr/\∃ j:Nat,j<=8/\i=.int .i64 (j:Int)/\st=.int .u32 ((ew j y:Nat):Int)) (fun _ i _=>8-(intOf i).toNat)
   case atStart=>exact⟨rfl,0,by omega,rfl,rfl⟩
   case round =>
    obtain⟨rfl,j,hj,rfl,rfl⟩:=hrel;by_cases MT:j<8
    ·have hzl:ew j y<4294967296:=qN j ya
     have HSt:=ae (Li j y);generalize ew j y=z at *
     have hand:bits .and .u32 (z:Int) 1=((z % 2:Nat):Int):=by
      have:=u32_and_nat z 1 hzl (by omega);rw[nat_mask1]at this;exact this
     have hdv:(z:Int) / 2=((z / 2:Nat):Int):=by omega
     have hxp:=u32_xor_nat (z / 2) 3988292384 (by omega) (by omega);have hjj:(j:Int)<8:=by omega
     by_cases hr:z % 2=1
     ·have gC:Hid (stp z=z / 2 ^^^ 3988292384):=by show _=_;unfold stp;rw[if_pos hr]
      rw[hr]at hand;have hxp':bits .xor .u32 ((z / 2:Nat):Int) 3988292384=((z / 2 ^^^ 3988292384:Nat):Int):=hxp;clear hxp hr;generalize z / 2 ^^^ 3988292384=q at *;generalize z / 2=h at *;go_wp2_with fail;go_roundw
      case rel=>exact⟨trivial,j+1,by omega,by go_num,by rw[HSt.out,gC.out]⟩
      case measure=>simp[intOf];omega
     ·have Wj:z % 2=0:=by omega
      have gC:Hid (stp z=z / 2):=by show _=_;unfold stp;rw[if_neg hr,Nat.xor_zero]
      rw[Wj]at hand;clear hxp hr Wj;generalize z / 2=h at *;go_wp2_with fail;go_roundw
      case rel=>exact⟨trivial,j+1,by omega,by go_num,by rw[HSt.out,gC.out]⟩
      case measure=>simp[intOf];omega
    ·obtain rfl:j=8:=by omega
     obtain⟨Z,hZ⟩:∃ Z,run s0 (l.take (k+1))=Z:=⟨_,rfl⟩;rw[← HN.out,hZ];have HZ:=ae hZ;clear HN hZ;go_wp2_with fail;go_roundw
     case rel=>exact⟨trivial,k+1,by omega,by go_num,by rw[HZ.out]⟩
     case measure=>simp[intOf];omega
  ·obtain rfl:k=l.length:=by omega
   rw[ZY];have fo:run s0 l<4294967296:=sC yb H8.out;have SY:=u32_xor_nat (run s0 l) 4294967295 fo (by omega);rw[← HE.out]at SY;have hxx':bits .xor .u32 ((run s0 l:Nat):Int) 4294967295=(R:Int):=SY;clear SY;generalize run s0 l=s at *;go_wp2_with fail;go_ret
   exact⟨rfl,rfl⟩
def sS:Nat->Nat->List Nat
 | 0,_=>[]
 | k+1,c=>sS k c++[c / 256 ^ k % 256]
theorem Q4(c:Nat):sS 4 c=le4 c:=by
 simp[sS,le4]
theorem tN:∀ k c,(sS k c).length=k
 | 0,_=>rfl
 | k+1,c=>by rw[sS,ZT,tN k c];rfl
theorem Q5(w:World)(d:Nat):aC (w.alloc (.cells #[.int .u8 (d:Int)] 5)) w.heap.size (.slice (some ⟨w.heap.size,0,none⟩) 1 1) [d]:=nQ w [d] (by unfold maxLen;simp)
theorem nG{w:World}{v:Value}{l:List Nat}(hs:SvK w v l)(h8:Bs l)(hl:l.length<=100000000) :
  Calls Tryz.prog 32 #[v] w (du w (bK l)):=by
 have HS:=ae hs;have H8:=ae h8;have HE:Hid (bK l=l++sS 4 (mQ 0 l)):=by show _=_;rw[Q4];rfl
 have hc:=uD (c:=0) (by omega) h8;have HM:=ae (fun(W:World) (h:SvK W v l)=>Ek h H8.out 0 (by omega));obtain⟨a,cap,rfl,h1,h2⟩:=hs.form;clear hs h8 h1 h2;generalize mQ 0 l=c at *;have HN:=ae (aC.nil w w.heap.size);go_enter Tryz.func32,Tryz.ntmps32
 go_wp2_with (first | (at_builtin;refine eb rfl _ _ rfl w.heap.size _ _ [] l rfl ?q1 rfl ?q2 ?c1 ?c2 ?_))
 case q1=>exact HN.out
 case q2=>exact HS.out
 case c1=>simp;omega
 case c2=>omega
 intro v1 w1 o1 aG;have o1':aC w1 w.heap.size v1 l:=o1;have fA:=ae o1';have aQ:=ae aG;have MD:=ae (HM.out w1 (HS.out.kept aG));clear o1 o1' aG;go_wp2_with fail;refine MD.out.mono ?_;rintro e w2 ⟨rfl,rfl⟩;go_wp2_with fail;go_loopw [3,4,5] (fun out s i wr=>∃ k:Nat,k<=4/\i=.int .i64 (k:Int)/\s=.int .u32 ((c / 256 ^ k:Nat):Int)/\aC wr w.heap.size out (l++sS k c)/\Below w.heap.size w wr) (fun _ _ i _=>4-(intOf i).toNat)
 case atStart=>exact⟨0,by omega,rfl,by simp,by rw[sS,Z7];exact fA.out,aQ.out⟩
 case round =>
  obtain⟨k,hk,rfl,rfl,how,ay⟩:=hrel;have HB:=ae ay;have jq:=ay.size;by_cases aB:k<4
  ·have EP:(k:Int)<4:=by omega
   have hq:((c / 256 ^ k:Nat):Int) / 256=((c / 256 ^ k / 256:Nat):Int):=by omega
   have hw8:=Ds (c / 256 ^ k);have HD:Hid (l++sS (k+1) c=l++sS k c++[c / 256 ^ k % 256]):=by show _=_;rw[sS,Z4]
   have HQ:Hid (c / 256 ^ (k+1)=c / 256 ^ k / 256):=by show _=_;rw[Nat.pow_succ,jbv]
   have hzl:c / 256 ^ k<4294967296:=jbo (Nat.div_le_self _ _) hc;have Bu:Hid ((l++sS k c).length<=100000004):=by show _<=_;rw[ZT,tN];omega
   have HL:=ae (Q5 wr (c / 256 ^ k % 256));have HO:=ae (how.kept (dq wr (.cells #[.int .u8 ((c / 256 ^ k % 256:Nat):Int)] 5)));have eW:=ae (HB.out.trans ((dq wr (.cells #[.int .u8 ((c / 256 ^ k % 256:Nat):Int)] 5)).mono jq));have HD':=HD;generalize l++sS k c=m at *;generalize c / 256 ^ k % 256=d at *;generalize c / 256 ^ k / 256=z2 at *;generalize c / 256 ^ k=z at *;clear how ay;go_wp2_with (first | (at_builtin;refine eb rfl _ _ rfl w.heap.size _ _ m [d] rfl ?q3 rfl ?q4 ?c3 ?c4 ?_))
   case q3=>exact HO.out
   case q4=>exact HL.out.svK
   case c3=>have:=Bu.out;simp;omega
   case c4=>rw[ZS];omega
   intro v3 w3 o3 aP;rw[← HD.out]at o3;have cX:=ae o3;have bM:=ae (eW.out.trans aP);clear o3 aP;go_wp2_with fail;go_roundw
   case rel=>exact⟨k+1,by omega,by go_num,by rw[HQ.out],cX.out,bM.out⟩
   case measure=>simp[intOf];omega
  ·obtain rfl:k=4:=by omega
   rw[← HE.out]at how;have HO:=ae how;clear how ay;generalize c / 256 ^ 4=z at *;go_wp2_with fail;go_ret
   exact⟨⟨_,rfl,HO.out⟩,HB.out⟩
end Go.Proofs.YtpljdjmpamjkhaaGreatDoor

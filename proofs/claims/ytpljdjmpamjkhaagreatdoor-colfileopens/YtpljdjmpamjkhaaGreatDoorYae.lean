import Derived.Test.YtpljdjmpamjkhaaGreatDoorYab
import Derived.Test.YtpljdjmpamjkhaaGreatDoorYad
import Derived.Test.YtpljdjmpamjkhaaGreatDoorProg
import Derived.WalkKit
import Derived.WalkLawsBesides
import Derived.Outline
import Derived.WalkSpells
import Derived.Lib.OthersKept
import Derived.Maps.AppendAt
import Derived.Laws.OwnMore
import Derived.BigQuiet
import Derived.BigRegion
import Derived.Lib.VarintBits
import Derived.Deep.RegionHeld3
import Derived.Deep.RegionWith
import Derived.Test.YtpljdjmpamjkhaaGreatDoorYac
set_option linter.unusedVariables false
set_option linter.unusedSimpArgs false
set_option maxRecDepth 100000
set_option maxHeartbeats 2000000
namespace Go.Proofs.YtpljdjmpamjkhaaGreatDoor
open Go.RowKit Go.Lib
theorem pt:(Tryz.prog.info? 92).map (fun i=>(i.zero,i.size,i.bytes))=some (some (.int .u64 0),1,8):=by kernel_rfl
theorem WE{acc:List UInt8}{k n:Nat}(h:acc++uvarint k=uvarint n)(hn:n<18446744073709551616):acc.length+1<=10:=by
 have h1:=uvarint_length64 hn;have h2:=uvarint_pos k;have h3:=congrArg List.length h;rw[ZT]at h3;omega
theorem Ce(n:Nat)(hn:n<18446744073709551616)(w:World) :
  Calls Tryz.prog 119 #[.int .u64 (n:Int)] w fun e w'=>(∃ v,e=.returned v/\w'.ownsRow w.heap.size 5 1 v (uvarint n).length (aV (uvarint n)))/\Below w.heap.size w w':=by
 obtain⟨i0,hi,ce,hz1',bm⟩:=info_parts jf;have HN:=ae hn;clear hn;go_enter Tryz.func119,Tryz.ntmps119
 go_wp2_with fail;go_loopw [0,3] (fun m b wr=>∃(k:Nat) (acc:List UInt8),m=.int .u64 (k:Int)/\k<18446744073709551616/\acc++uvarint k=uvarint n/\wr.ownsRow w.heap.size 5 1 b acc.length (aV acc)/\Below w.heap.size w wr) (fun m _ _=>(intOf m).toNat)
 case atStart=>exact⟨n,[],rfl,HN.out,rfl,jaB _ _ _ _,ZQ _ _⟩
 case round =>
  obtain⟨k,acc,rfl,hk,Hb,az,ay⟩:=hrel;have bQ:=WE Hb HN.out;have HA:=ae Hb;have HO:=ae az;have HB:=ae ay;have bO:=ay.size;clear Hb az ay;by_cases h:(k:Int)>=128
  ·have hor:=u8_or128_any ((k:Int) % 256) (by omega) (by omega)
   go_wp2_with (first | (at_builtin;refine wpList_append_own_at _ rfl _ _ 30 rfl w.heap.size 5 i0 (.int .u8 0) 1 1 Tryz.underlying30 hi ce hz1' bm rfl (by decide) _ _ _ rfl (HO.out.alloc _) ⟨wr.heap.size,0,none⟩ 1 1 [.int .u8 ((k:Int) % 128+128)] rfl rfl ?c1 ?c2 ?c3 ?c4 ?c5 ?_))
   case c1=>exact cell_one_new _ _ _
   case c2=>first | rfl | (intro u hu;simp at hu;subst hu;rfl)
   case c3=>unfold maxLen;omega
   case c4=>omega
   case c5=>first | omega | (simp;omega)
   intro v1 w2 o1 g1 _ e1;have fA:=ae o1;have aQ:=ae ((HB.out.alloc (by omega) _).grown g1 (by simp;omega) (fun k hk=>(HO.out.lt k hk).1));clear o1 g1 e1;go_wp2_with fail;go_roundw
   case rel =>
    refine⟨k / 128,acc++[(k % 128+128).toUInt8],by go_num,by omega,?_,?_,aQ.out⟩
    ·rw[← HA.out,uvarint_big (x:=k) (by omega)];simp
    ·rw[jt,ZT]
     rw[jF (by omega)];exact fA.out
   case measure=>simp[intOf];omega
  ·have SF:uvarint k=[k.toUInt8]:=uvarint_small (by omega)
   have HS:=ae SF;clear SF;go_wp2_with (first | (at_builtin;refine wpList_append_own_at _ rfl _ _ 30 rfl w.heap.size 5 i0 (.int .u8 0) 1 1 Tryz.underlying30 hi ce hz1' bm rfl (by decide) _ _ _ rfl (HO.out.alloc _) ⟨wr.heap.size,0,none⟩ 1 1 [.int .u8 (k:Int)] rfl rfl ?c1 ?c2 ?c3 ?c4 ?c5 ?_))
   case c2=>first | rfl | (intro u hu;simp at hu;subst hu;rfl)
   case c3=>unfold maxLen;omega
   case c4=>omega
   case c5=>first | omega | (simp;omega)
   intro v1 w2 o1 g1 _ e1;have fA:=ae o1;have aQ:=ae ((HB.out.alloc (by omega) _).grown g1 (by simp;omega) (fun k hk=>(HO.out.lt k hk).1));clear o1 g1 e1;go_wp2_with fail;go_ret
   refine⟨⟨_,rfl,?_⟩,aQ.out⟩;have h1:=fA.out;rw[← HA.out,HS.out,jt,ZT];rw[jF (by omega)];exact h1
theorem E9:∀(N n:Nat),n<=N->n<18446744073709551616->∀ w:World,
  Calls Tryz.prog 45 #[.int .u64 (n:Int)] w fun e w'=>(∃ v,e=.returned v/\w'.ownsRow w.heap.size 5 1 v (uvarint n).length (aV (uvarint n)))/\Below w.heap.size w w':=by
 intro N;induction N with
 | zero =>
  intro n h0 hn w;obtain rfl:n=0:=by omega
  have HS:=ae (uvarint_small (x:=0) (by omega));go_enter Tryz.func45,Tryz.ntmps45
  go_wp2_with fail;go_ret
  refine⟨⟨_,rfl,?_⟩,(ZQ _ _).alloc (ZR _) _⟩;rw[HS.out];exact jaT w #[.int .u8 0] 1 (ZR _) (by unfold maxLen;omega) rfl
 | succ N ih =>
  intro n h0 hn w;obtain⟨i0,hi,ce,hz1',bm⟩:=info_parts jf;by_cases h:(n:Int)<128
  ·have HS:=ae (uvarint_small (x:=n) (by omega))
   have HV:=ae (jF (x:=n) (by omega));clear ih;go_enter Tryz.func45,Tryz.ntmps45
   go_wp2_with fail;go_ret
   refine⟨⟨_,rfl,?_⟩,(ZQ _ _).alloc (ZR _) _⟩;rw[HS.out,HV.out];exact jaT w #[.int .u8 (n:Int)] 1 (ZR _) (by unfold maxLen;omega) rfl
  ·have HS:=ae (uvarint_big (x:=n) (by omega))
   have HL:=ae (uvarint_length64 (x:=n / 128) (by omega));have HP:=ae (uvarint_pos (n / 128));have HV:=ae (jF (x:=n % 128+128) (by omega));have HI:=ae (ih (n / 128) (by omega) (by omega));have xh:∀ B,B<=w.heap.size->(w.alloc (.cells #[.int .u8 ((n:Int) % 128+128)] 5)).ownsRow B 5 1 (.slice (some ⟨w.heap.size,0,none⟩) 1 1) 1 [.int .u8 ((n:Int) % 128+128)]:=fun B hB=>jaT w #[.int .u8 ((n:Int) % 128+128)] 1 hB (by unfold maxLen;omega) rfl
   have HLit:=ae xh;clear ih xh;go_enter Tryz.func45,Tryz.ntmps45
   go_wp2_with fail;refine(HI.out _).mono ?_;rintro e w2 ⟨⟨v,rfl,az⟩,hb⟩;obtain⟨g,cap,rfl,hg,hgB,hc⟩:=(rN az).2 HP.out;have HC:=ae hc;have HO:=ae (bH (HLit.out w.heap.size (ZR _)) hb);have HB:=ae (((ZQ w.heap.size w).alloc (ZR _) (.cells #[.int .u8 ((n:Int) % 128+128)] 5)).trans (hb.mono (by simp)));have hz:=hb.size;simp at hz
   clear hc az hb;have bQ:=HL.out;go_wp2_with (first | (at_builtin;refine wpList_append_own_at _ rfl _ _ 30 rfl w.heap.size 5 i0 (.int .u8 0) 1 1 Tryz.underlying30 hi ce hz1' bm rfl (by decide) _ _ _ rfl HO.out ⟨g,0,none⟩ (uvarint (n / 128)).length cap (aV (uvarint (n / 128))) rfl (by rw[mG];omega) ?c1 ?c2 ?c3 ?c4 ?c5 ?_))
   case c1=>intro j u hu;rw[md];exact HC.out j u hu
   case c2=>exact rO _
   case c3=>unfold maxLen;omega
   case c4=>omega
   case c5=>omega
   intro v1 w3 o1 g1 _ e1;have fA:=ae o1;have aQ:=ae (HB.out.grown g1 (by omega) (fun k hk=>(HO.out.lt k hk).1));clear o1 g1 e1;go_wp2_with fail;go_ret
   refine⟨⟨_,rfl,?_⟩,aQ.out⟩;have h1:=fA.out;rw[HS.out]
   have e2:aV ((n % 128+128).toUInt8::uvarint (n / 128))=[.int .u8 ((n:Int) % 128+128)]++aV (uvarint (n / 128)):=by
    rw[← List.singleton_append,jt,HV.out];rfl
   rw[e2,ZW,Nat.add_comm];exact h1
theorem uW(n:Nat)(hn:n<18446744073709551616)(w:World) :
  Calls Tryz.prog 45 #[.int .u64 (n:Int)] w fun e w'=>(∃ v,e=.returned v/\w'.ownsRow w.heap.size 5 1 v (uvarint n).length (aV (uvarint n)))/\Below w.heap.size w w' :=
 E9 n n (ZR _) hn w
def kE(k:IntKind)(x:Int)(u e:Nat):Ending:=.returned (.tuple #[.int k x,.int .i64 (u:Int),.int .i64 (e:Int)])
theorem Ks(n used:Nat)(c:UInt8)(hu:used<=10)(w:World) :
  Calls Tryz.prog 213 #[.int .u64 (n:Int),.int .i64 (used:Int),.int .u8 (c.toNat:Int)] w fun e w' =>
   e=(if c.toNat=0/\1<used then kE .u64 0 0 31 else kE .u64 (n:Int) used 0)/\w'=w:=by
 by_cases h1:((c.toNat:Int)==0)=true
 ·have h1':c.toNat=0:=by simpa using h1
  by_cases h2:(used:Int) > 1
  ·rw[if_pos ⟨h1',by omega⟩]
   clear h1';go_enter Tryz.func213,Tryz.ntmps213
   go_wp2_with fail;go_ret3
   exact⟨rfl,rfl⟩
  ·rw[if_neg (fun h=>by omega)]
   clear h1';go_enter Tryz.func213,Tryz.ntmps213
   go_wp2_with fail;go_ret3
   exact⟨rfl,rfl⟩
 ·have h1':((c.toNat:Int)==0)=false:=by simpa using h1
  rw[if_neg (fun h=>h1 (by simpa using h.1))];clear h1;go_enter Tryz.func213,Tryz.ntmps213
  go_wp2_with fail;go_ret3
  exact⟨rfl,rfl⟩
theorem Kt(a:Option Addr)(cap:Nat)(w:World):Calls Tryz.prog 180 #[.slice a 0 cap] w fun e w'=>e=kE .u64 0 0 30/\w'=w:=by
 go_enter Tryz.func180,Tryz.ntmps180
 go_wp2_with fail;refine wp_loop_rounds 1 ?_;rw[rounds_succ];go_wp2_with fail;go_ret3
 exact⟨rfl,rfl⟩
theorem WF{c k:Nat}:((c:Nat):Int)*2 ^ (7*k)=((c*128 ^ k:Nat):Int):=by
 rw[← Wz];simp
theorem Td{l:List UInt8}{k:Nat}(h:k<l.length)(h9:k<=9)(kC:val (l.take (k+1))<18446744073709551616) :
  bits .or .u64 (val (l.take k):Int) (IntKind.u64.wrap ((l[k].toNat:Int) % 128*2 ^ (7*k)))=(val (l.take (k+1)):Int):=by
 have hv:=eY h;have hl:=uS (l.take k);rw[ZX,jaJ (by omega)]at hl
 have e:(l[k].toNat:Int) % 128*2 ^ (7*k)=((l[k].toNat % 128*128 ^ k:Nat):Int):=by
  rw[← WF];simp
 rw[e,wraps_u64 _ (by omega) (by omega),Np h9 hl (by omega),hv]
theorem Te{k:Nat}{n:Int}{c:UInt8}(hu:k+1<=10)(w:World){P:Ending->World->Prop}(h:Calls Tryz.prog 213 #[.int .u64 n,.int .i64 ((k+1:Nat):Int),.int .u8 (c.toNat:Int)] w P) :
  Calls Tryz.prog 213 #[.int .u64 n,.int .i64 ((k:Int)+1),.int .u8 (c.toNat:Int)] w P:=by
 have e:((k+1:Nat):Int)=(k:Int)+1:=by omega
 rwa[e]at h
theorem Ny(b off cap:Nat)(l:List UInt8)(w:World)(XF:l.length<=maxLen)(aX:l.length<=cap)
  (hc:∀ j (h:j<l.length),w.cell? ⟨b,off+j,none⟩=some (.int .u8 (l[j].toNat:Int))) :
  Calls Tryz.prog 180 #[.slice (some ⟨b,off,none⟩) l.length cap] w fun e w'=>e=kE .u64 ((ft l).1:Int) (ft l).2.1 (ft l).2.2/\w'=w:=by
 have hm:l.length<=9223372036854775807:=by unfold maxLen at XF;omega
 have HC:=ae hc;clear hc XF;go_enter Tryz.func180,Tryz.ntmps180
 go_wp2_with fail;go_loopw [5,10] (fun n i w'=>w'=w/\∃ k:Nat,k<=9/\k<=l.length/\k<=aS l/\i=.int .i64 (k:Int)/\n=.int .u64 (val (l.take k):Int)) (fun _ i _=>l.length-(intOf i).toNat)
 case atStart=>exact⟨rfl,0,by omega,by omega,by omega,rfl,rfl⟩
 case round =>
  obtain⟨rfl,k,h9,hk,zG,rfl,rfl⟩:=hrel;by_cases aB:k<l.length
  ·have dP:=HC.out k aB
   have hval:=eY aB;have Rg:=uS (l.take k);rw[ZX,jaJ (by omega)]at Rg;have HT:=ae (fun(e:k=9) (h:1<l[k].toNat)=>E6 (l:=l) (by omega) (by omega) (by subst e;exact h));have HL:=ae (fun h1 h2=>yw (l:=l) zG h9 aB h1 h2);have HN:=ae (Kl zG aB);have kC:=fun h=>Td (l:=l) aB h9 (Nm (l:=l) h9 aB h)
   have eO:=l[k].toNat_lt;have han:=Km l[k];have ui:=ae zG;have lr:=ae (fun w=>Te (k:=k) (by omega) w (Ks (val (l.take (k+1))) (k+1) l[k] (by omega) w));clear zG;generalize l[k]=c at *;by_cases hk9:((k:Int)==9)=true
   ·have hk9':k=9:=by have:(k:Int)=9:=(by simpa using hk9);omega
    by_cases lp:(c.toNat:Int) > 1
    ·have HE:=ae (HT.out hk9' (by omega))
     clear HT HL HN kC hval Rg han hk9';go_wp2_with fail;go_ret3
     rw[HE.out];exact⟨rfl,rfl⟩
    ·have HJ:=ae (kC (fun _=>by omega))
     have HF:=ae (HL.out (by omega) (fun _=>by omega));clear HT HL HN kC hval Rg hk9';go_wp2_with fail;rw[HJ.out];refine(lr.out _).mono ?_;rintro e w1 ⟨rfl,rfl⟩
     have gB:Hid ((if c.toNat=0/\1<k+1 then kE .u64 0 0 31 else kE .u64 (val (l.take (k+1)):Int) (k+1) 0)=kE .u64 ((ft l).1:Int) (ft l).2.1 (ft l).2.2):=by
      show _=_
      rw[HF.out];by_cases h:c.toNat=0/\0<k
      ·rw[if_pos h,if_pos ⟨h.1,by omega⟩];rfl
      ·rw[if_neg h,if_neg (fun h1=>h ⟨h1.1,by omega⟩)]
     rw[gB.out];unfold kE;go_wp2_with fail;go_ret3
     exact⟨rfl,rfl⟩
   ·have hk9':((k:Int)==9)=false:=by simpa using hk9
    have hk8:k<=8:=by have:¬ (k:Int)=9:=(by simpa using hk9);omega
    have HJ:=ae (kC (fun _=>by omega));clear hk9;by_cases lp:(c.toNat:Int)<128
    ·have HF:=ae (HL.out (by omega) (fun _=>by omega))
     clear HT HL HN kC hval Rg;go_wp2_with fail;rw[HJ.out];refine(lr.out _).mono ?_;rintro e w1 ⟨rfl,rfl⟩
     have gB:Hid ((if c.toNat=0/\1<k+1 then kE .u64 0 0 31 else kE .u64 (val (l.take (k+1)):Int) (k+1) 0)=kE .u64 ((ft l).1:Int) (ft l).2.1 (ft l).2.2):=by
      show _=_
      rw[HF.out];by_cases h:c.toNat=0/\0<k
      ·rw[if_pos h,if_pos ⟨h.1,by omega⟩];rfl
      ·rw[if_neg h,if_neg (fun h1=>h ⟨h1.1,by omega⟩)]
     rw[gB.out];unfold kE;go_wp2_with fail;go_ret3
     exact⟨rfl,rfl⟩
    ·have HF:=ae (HN.out (by omega))
     clear HT HL HN kC hval Rg;go_wp2_with fail;rw[HJ.out];go_roundw
     case rel=>exact⟨trivial,k+1,by omega,by omega,HF.out,by go_num,rfl⟩
     case measure=>simp[intOf];omega
  ·have HE:=ae (Ca zG h9 aB)
   clear zG;go_wp2_with fail;go_ret3
   rw[HE.out];exact⟨rfl,rfl⟩
theorem Jp{w:World}{v:Value}{l:List UInt8}(h:Sl w v l):Calls Tryz.prog 180 #[v] w fun e w'=>e=kE .u64 ((ft l).1:Int) (ft l).2.1 (ft l).2.2/\w'=w:=by
 obtain⟨a,cap,rfl,h1,h2,h3⟩:=h;cases l with
 | nil=>exact Kt a cap w
 | cons x r =>
  obtain⟨b,off,rfl,_,h5⟩:=h3 (by simp);exact Ny b off cap (x::r) w (by omega) h1 h5
theorem Ku{l:List UInt8}(h:¬ (9<=aS l/\9<l.length/\1<(l.getD 9 0).toNat))(hl:aS l<l.length):aS l<=9/\(aS l=9->l[aS l].toNat<=1):=by
 have h9:aS l<=9:=by
  rcases jae 9 (aS l)with h1 | h1
  ·exfalso
   apply h
   refine⟨by omega,by omega,?_⟩;rw[kJ (by omega)];have:=nf l 9 (by omega) h1;omega
  ·exact h1
 refine⟨h9,fun e=>?_⟩;have h3:¬ 1<(l.getD 9 0).toNat:=fun h2=>h ⟨by omega,by omega,h2⟩
 rw[kJ (by omega)]at h3;simp only[e];omega
theorem yA(l:List UInt8):(ft l).1<18446744073709551616/\(ft l).2.1<=l.length/\(ft l).2.1<=10/\((ft l).2.2=0∨(((ft l).2.2=30∨(ft l).2.2=31)/\(ft l).1=0/\(ft l).2.1=0)):=by
 have oH:=uA l;unfold ft;split
 ·simp
 ·rename_i h1
  split
  ·simp
  ·rename_i h2
   have hl:aS l<l.length:=by omega
   obtain⟨h9,ht⟩:=Ku h1 hl;split
   ·simp
   ·refine⟨Nm h9 hl ht,?_,?_,Or.inl rfl⟩<;>simp only<;>omega
theorem Nz{e:Nat}(h:e=0∨e=30∨e=31)(h0:¬ e=0):((e:Int) != 0)=true:=by simp;omega
theorem uB(n:Nat):aE .u8 (uv n)=aV (uvarint n):=uN _
theorem dG(n:Nat)(hn:n<18446744073709551616)(w:World):Calls Tryz.prog 119 #[.int .u64 (n:Int)] w (du w (uv n)):=by
 refine(Ce n hn w).mono ?_;rintro e w' ⟨⟨v,rfl,h⟩,hb⟩;exact⟨⟨v,rfl,by unfold aC;rw[uB,mf];exact h⟩,hb⟩
theorem bC(n:Nat)(hn:n<18446744073709551616)(w:World):Calls Tryz.prog 45 #[.int .u64 (n:Int)] w (du w (uv n)):=by
 refine(uW n hn w).mono ?_;rintro e w' ⟨⟨v,rfl,h⟩,hb⟩;exact⟨⟨v,rfl,by unfold aC;rw[uB,mf];exact h⟩,hb⟩
theorem fQ(b:List Nat):(gt b).1<18446744073709551616/\(gt b).2.1<=b.length/\(gt b).2.1<=10/\((gt b).2.2=0∨(((gt b).2.2=30∨(gt b).2.2=31)/\(gt b).1=0/\(gt b).2.1=0)):=by
 have:=yA (b.map Nat.toUInt8);rw[ZU]at this;exact this
theorem Ak{w:World}{a:Option Addr}{n cap:Nat}{b:List Nat}(hb:Bs b)(h:Sv w (.slice a n cap) (aE .u8 b)) :
  Calls Tryz.prog 180 #[.slice a n cap] w fun e w'=>e=kE .u64 ((gt b).1:Int) (gt b).2.1 (gt b).2.2/\w'=w:=Jp (h.sl hb)
end Go.Proofs.YtpljdjmpamjkhaaGreatDoor

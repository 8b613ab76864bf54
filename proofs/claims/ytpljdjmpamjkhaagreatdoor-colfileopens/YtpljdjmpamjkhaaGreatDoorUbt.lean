import Derived.Test.YtpljdjmpamjkhaaGreatDoorUbs
import Derived.Test.YtpljdjmpamjkhaaGreatDoorCards
import Derived.Test.YtpljdjmpamjkhaaGreatDoorTie
import Derived.LaidMore
set_option linter.unusedVariables false
set_option linter.unusedSimpArgs false
set_option maxRecDepth 100000
set_option maxHeartbeats 20000000
namespace Go.Proofs.YtpljdjmpamjkhaaGreatDoor
open Go.RowKit Go.Lib
theorem Uh{b:List Nat}{id g:Nat}{fs:List Fd}{gs:List Gr}(h8:Bs b)(h:js b=.ok (id,fs,g,gs)) :
  chk id fs=0/\id<4294967296/\(∀ f∈fs,Okf f)/\1<=g/\g<=64/\(bQ gs).length<=256/\ET fs (bQ gs)/\bU id fs (bQ gs) (g:Int)=(b,0):=by
 unfold js at h;split at h
 ·cases h
 ·next t ht =>
  split at h
  ·split at h
   ·cases h
   ·next x hx =>
    split at h
    ·next hw =>
     cases h
     obtain⟨q1,q2,q3,q4,q5,q6,q7,_⟩:=uf (b:=t.drop 3) (fun y hy=>(mK ht h8).1 y (jeO hy)) hx;exact⟨q1,q2,q3,q4,q5,q6,q7,hw⟩
    ·cases h
  ·cases h
theorem nU(b:List Nat):js b=match et b with
  | none=>.error 101
  | some t=>if t.take 3=[67,70,49] then (match iK (t.drop 3)with
    | none=>.error 102
    | some x=>if bU x.1 x.2.1 (bQ x.2.2.2) x.2.2.1=(b,0) then .ok x else .error 102) else .error 100:=rfl
theorem JY{b:List Nat}(h:et b=none):js b=.error 101:=by rw[nU,h]
theorem Pk{b t:List Nat}(h:et b=some t)(h3:t.take 3≠[67,70,49]):js b=.error 100:=by
 rw[nU,h];simp only;rw[jde h3]
theorem JZ{b t:List Nat}{c:Nat}(h:et b=some t)(h3:t.take 3=[67,70,49])(he:js b=.error c):c=102:=by
 rw[nU,h]at he;simp only at he;rw[jdf h3]at he;split at he
 ·cases he;rfl
 ·split at he
  ·cases he
  ·cases he;rfl
theorem Pm{b:List Nat}{x:Nat×List Fd×Nat×List Gr}(h:js b=.ok x):∃ t,et b=some t/\t.take 3=[67,70,49]:=by
 unfold js at h;split at h
 ·cases h
 ·next t ht =>
  split at h
  ·next h3=>exact⟨t,ht,h3⟩
  ·cases h
theorem Pn{id:Nat}{fs:List Fd}{rows:List Row}{g:Int}(ho:∀ f∈fs,Okf f)(na:id<4294967296)(hf:∀ r∈rows,∀ c∈r,aV c):Bs (bU id fs rows g).1:=by
 unfold bU;split
 ·exact fun x hx=>by simp at hx
 ·next h0 =>
  split
  ·exact fun x hx=>by simp at hx
  ·obtain⟨hc,⟨eS,gM⟩,hl,lz⟩:=li (Decidable.not_not.1 h0)
   exact(mf ho na hc hl (by omega) (by omega) (fun r hh=>⟨mg lz r hh,hf r hh⟩)).2.seal
namespace OpensLaw
theorem walk{w:World}(ht:Tab w){v:Value}{b0:List Nat}(hs:Sv w v (aF .u8 b0))(h8:Bs b0)(s:Bool) :
  Calls Tryz.prog 6 #[v,.bool s] w fun e w'=>e=.returned (.bool true)/\Below w.heap.size w w':=by
 obtain⟨a0,cap0,rfl,hcp0,hcm0⟩:=hs.form1;rw[ap]at *;have hcm0':cap0<=9223372036854775807:=by unfold maxLen at hcm0;omega
 have HT:=ae ht;have HS:=ae hs;have H8:=ae h8;have HAL:=ae (Fi ht);clear ht hs h8 hcm0;go_enter Tryz.func6,Tryz.ntmps6
 go_wp2_with fail;refine HAL.o.mono ?_;rintro e w1 ⟨rfl,aH⟩;have aR:=ae aH;have UQ:=ae (HT.o.kept aH);have iO:=ae (HS.o.kept aH);clear aH HAL HT HS;by_cases PJ:(b0.length:Int) > 20000
 ·go_wp2_with fail
  go_ret
  exact⟨rfl,aR.o⟩
 have Am:b0.length<=20000:=by omega
 go_upto_if 18 with fail
 go_cut [0] from 91 (fun v wx=>∃ a cap b,v=.slice a b.length cap/\Sv wx (.slice a b.length cap) (aF .u8 b)/\Bs b/\b.length<=20004/\Below w.heap.size w wx/\Tab wx)
 case first =>
  cases s with
  | false =>
   go_wp2_with fail;go_meet
   exact⟨a0,cap0,b0,rfl,iO.o,H8.o,by omega,aR.o,UQ.o⟩
  | true =>
   have Zs:=ae (nT iO.o.toK H8.o (by omega));go_wp2_with fail;refine Zs.o.mono ?_;rintro e w2 ⟨⟨v2,rfl,o2⟩,aE⟩;have ie:=o2.sv;obtain⟨a2,c2,rfl,_,_⟩:=bG o2;have Ah:=ae ie;have aO:=ae (ai aR.o aE);have Ao:=ae (UQ.o.kept aE);clear o2 ie aE Zs;go_wp2_with fail;go_meet
   exact⟨a2,c2,bL b0,rfl,Ah.o,H8.o.seal,by rw[kf];omega,aO.o,Ao.o⟩
 case rest =>
 obtain⟨a,cap,b,rfl,ie,kH,fO,az,jcA⟩:=hcut;obtain⟨w2,py⟩:∃ w2,w2=wc:=⟨_,rfl⟩;subst py;have Ah:=ae ie;have aO:=ae az;have Ao:=ae jcA;have iG:=ae (qj jcA ie kH (by omega));have qo:=ae kH;clear ie kH az jcA iO UQ PJ;go_wp2_with fail;refine iG.o.mono ?_;rintro e w3 ⟨⟨c,VG,rfl⟩ | ⟨id,fs,g,gs,fp,fv,jy,rfl,uT,Qs⟩,aQ⟩
 ·have bN:=ae (ai aO.o aQ)
  have FS:=ae (uk (Ah.o.kept aQ).toK qo.o (by omega));have XR:=ae VG;clear aQ VG iG;go_wp2_with fail;refine FS.o.mono ?_;rintro e w4 ⟨⟨u,rfl,su⟩,bw⟩;have ce:=ae (ai bN.o bw);cases CA:et b with
  | none =>
   have hce:c=101:=by have h:=XR.o;rw[JY CA]at h;cases h;rfl
   subst hce;clear su bw FS;simp only[Option.isSome];go_wp2_with fail;go_ret
   exact⟨rfl,ce.o⟩
  | some t =>
   rw[CA]at su;simp only[Option.getD,Option.isSome]at *;obtain⟨t8,tl⟩:=mK CA qo.o;obtain⟨au,cu,rfl,UJ,UN⟩:=su.toS.form1;rw[ap]at *;have hcu2':cu<=9223372036854775807:=by unfold maxLen at UN;omega
   by_cases h3:t.take 3=[67,70,49]
   ·have hce:=JZ CA h3 XR.o
    subst hce;have hl3:3<=t.length:=by have:=jdm List.length h3;rw[jdo]at this;simp at this;omega
    have iM:=Sv.take su.toS (k:=3) (by rw[ap];exact hl3);rw[gK,h3]at iM;have uL:=iM.conv (by intro x hx;simp at hx;omega);unfold txt at uL;obtain⟨Y,hY⟩:∃ Y,([67,70,49]:List Nat).map Nat.toUInt8=Y:=⟨_,rfl⟩;have ZE:(Y==[67,70,49])=true:=by rw[← hY];rfl
    rw[hY]at uL;have mO:¬ (t.length:Int)<3:=(by omega);have oR:¬ cu=0:=(by omega);have Kw:(3:Int)<=(cu:Int):=(by omega);clear su bw FS iM h3 t8 tl CA hY;go_wp2_with fail;go_ret
    exact⟨rfl,ce.o⟩
   ·have hce:c=100:=by have h:=XR.o;rw[Pk CA h3]at h;cases h;rfl
    subst hce;by_cases mO:(t.length:Int)<3
    ·clear su bw FS t8 tl CA h3
     go_wp2_with fail;go_ret
     exact⟨rfl,ce.o⟩
    ·have iM:=Sv.take su.toS (k:=3) (by rw[ap];omega)
     rw[gK]at iM;have ht8:Bs (t.take 3):=fun x hx=>t8 x (jd3 hx)
     have uL:=iM.conv ht8;have oR:¬ cu=0:=(by omega);have Kw:(3:Int)<=(cu:Int):=(by omega);unfold txt at uL;have ZE:=uZ ht8 (b:=[67,70,49]) (by intro x hx;simp at hx;omega);rw[jds h3]at ZE;obtain⟨Y,hY⟩:∃ Y,(t.take 3).map Nat.toUInt8=Y:=⟨_,rfl⟩;rw[hY]at uL ZE;have hbe2:(Y==[67,70,49])=false:=ZE;clear su bw FS iM h3 t8 tl CA hY ht8 ZE;go_wp2_with fail;go_ret
     exact⟨rfl,ce.o⟩
 ·obtain⟨dR,na,ho,eS,gM,xH,ZR,Kj⟩:=Uh qo.o jy
  obtain⟨t,CA,h3⟩:=Pm jy;have jT:=(mH dR).2.1;have bN:=ae (ai aO.o aQ);have jcB:=ae (Ah.o.kept aQ);have FS:=ae (uk jcB.o.toK qo.o (by omega));have xN:=ae uT;have xI:=ae Qs;have HO:=ae ho;have nj:=ae ZR;have KD:=ae Kj;clear aQ uT Qs ho ZR Kj jy iG Ah dR;go_wp2_with fail;refine FS.o.mono ?_;rintro e w4 ⟨⟨u,rfl,su⟩,bw⟩;rw[CA]at su ⊢;simp only[Option.getD,Option.isSome]at *;obtain⟨t8,tl⟩:=mK CA qo.o;obtain⟨au,cu,rfl,UJ,UN⟩:=su.toS.form1;rw[ap]at *;have hcu2':cu<=9223372036854775807:=by unfold maxLen at UN;omega
  have hl3:3<=t.length:=by have:=jdm List.length h3;rw[jdo]at this;simp at this;omega
  have iM:=Sv.take su.toS (k:=3) (by rw[ap];exact hl3);rw[gK,h3]at iM;have uL:=iM.conv (by intro x hx;simp at hx;omega);unfold txt at uL;obtain⟨Y,hY⟩:∃ Y,([67,70,49]:List Nat).map Nat.toUInt8=Y:=⟨_,rfl⟩;have ZE:(Y==[67,70,49])=true:=by rw[← hY];rfl
  rw[hY]at uL;have mO:¬ (t.length:Int)<3:=by omega
  have oR:¬ cu=0:=by omega
  have Kw:(3:Int)<=(cu:Int):=by omega
  have ce:=ae (ai bN.o bw);have HSV4:=ae (jcB.o.kept bw);have xT:=ae (xN.o.kept bw);have HOF4:=ae (xI.o.kept bw);have PI:=ae (zV xT.o (fun r hr=>by have:=(nj.o r hr).1;omega) (by omega));clear su bw FS iM h3 t8 tl CA hY xN xI jcB;go_wp2_with fail;refine PI.o.mono ?_;rintro e w5 ⟨⟨v5,l5,rfl,o5,hsn5⟩,br⟩;have YC:=o5.rv;rw[hsn5]at YC;have Qi:=ae (TQ YC (fun r hr=>(nj.o r hr).2) (by omega) (fun r hr=>by have:=(nj.o r hr).1;omega));have aS:=ae (ai ce.o br);have HSV5:=ae (HSV4.o.kept br);have xU:=ae (xT.o.kept br);have HOF5:=ae (HOF4.o.kept br);obtain⟨a5,c5,rfl,_⟩:=YC.form;clear br o5 hsn5 YC PI HSV4 xT HOF4;go_wp2_with fail;refine Qi.o.mono ?_;rintro e w6 ⟨⟨v6,l6,rfl,o6,Vc⟩,dP⟩;have YD:=o6.sr;rw[Vc]at YD;have jc:=ae (ai aS.o dP);have Yn:=ae (HSV5.o.kept dP);have Gb:=ae (xU.o.kept dP);have HOF6:=ae (HOF5.o.kept dP);obtain⟨a6,c6,rfl,_,_⟩:=YD.form;have H20:jfb (∀ U,Below w6.heap.size w6 U->Calls Tryz.prog 20 #[.pointer (some ⟨fp,0,none⟩)] U fun e w'=>e=.returned (.int .i64 ((bQ gs).length:Int))/\Below U.heap.size U w'):=ae (fun U hU=>xy (Gb.o.kept hU) (by omega))
  have H19:jfb (∀ U,Below w6.heap.size w6 U->Calls Tryz.prog 19 #[.pointer (some ⟨fp,0,none⟩)] U fun e w'=>∃ a c,e=.returned (.agg #[.int .u32 (id:Int),.slice a fs.length c])/\Sf w' (.slice a fs.length c) fs/\Below U.heap.size U w'):=ae (fun U hU=>by
   refine(BO (Gb.o.kept hU) ((HOF6.o.sf).kept hU) (by omega)).mono ?_;rintro e w' ⟨⟨v',rfl,how'⟩,hb'⟩;have hsf':=how'.sf;obtain⟨a',c',rfl,_,_⟩:=hsf'.form;exact⟨a',c',rfl,hsf',hb'⟩)
  have H14:jfb (∀ U a c (k:Nat),Below w6.heap.size w6 U->Sf U (.slice a fs.length c) fs->Calls Tryz.prog 14 #[.agg #[.int .u32 (id:Int),.slice a fs.length c],.slice a6 (bQ gs).length c6,.int .i64 (k:Int)] U fun e w'=>(∃ v',e=.returned (.tuple #[v',.int .i64 ((bU id fs (bQ gs) (k:Int)).2:Int)])/\aD w' U.heap.size v' (bU id fs (bQ gs) (k:Int)).1)/\Below U.heap.size U w'):=ae (fun U a c k hU xX =>
   xE xX (YD.kept hU) HO.o na (fun r hr=>(nj.o r hr).2) (by omega) k)
  have ur:jfb (∀ k:Nat,Bs (bU id fs (bQ gs) (k:Int)).1):=ae (fun k=>Pn HO.o na (fun r hr=>(nj.o r hr).2));clear dP o6 Vc YD Qi HSV5 xU HOF5 Gb HOF6 nj;generalize bQ gs=rs at *;go_wp2_with fail;go_loopw [10] (fun i wr=>∃(k:Nat),i=.int .i64 (k:Int)/\1<=k/\k<=g/\Below w6.heap.size w6 wr) (fun i _=>65-(intOf i).toNat)
  case atStart=>exact⟨1,rfl,by omega,by omega,jdg _ _⟩
  case round =>
   obtain⟨k,rfl,qr,hkg,az⟩:=hrel;have oV:(k:Int)<=64:=(by omega);have HB:=ae az;have H19':=ae (H19.o wr HB.o);clear az;go_wp2_with fail;refine H19'.o.mono ?_;rintro e x1 ⟨a7,c7,rfl,hsf7,hbx1⟩;have HBX1:=ae (ai HB.o hbx1);have H14':=ae (H14.o x1 a7 c7 k HBX1.o hsf7);have Cw:=ur.o k;have hwg:k=g->bU id fs rs (k:Int)=(b,0):=fun h=>by rw[h];exact KD.o
   clear hbx1 hsf7 H19';generalize bU id fs rs (k:Int)=WM at *;obtain⟨wb,we⟩:=WM;simp only at Cw H14';go_wp2_with fail;refine H14'.o.mono ?_;rintro e x2 ⟨⟨v8,rfl,o8⟩,hbx2⟩;have Vw:=ae (ai HBX1.o hbx2);have hcv1:=o8.sv.conv Cw;have Yg:=(Yn.o.kept Vw.o).conv qo.o;unfold txt at hcv1 Yg;have uP:=uZ Cw qo.o;obtain⟨a8,c8,rfl,_,_⟩:=bG o8;clear hbx2 o8 H14';by_cases hwe:(we:Int)=0
   ·by_cases heq:wb=b
    ·have H20':=ae (H20.o x2 Vw.o)
     rw[jdy heq]at uP;subst heq;clear Cw hwg;generalize List.map Nat.toUInt8 wb=Z at *;go_wp2_with fail;refine H20'.o.mono ?_;rintro e x3 ⟨rfl,FH⟩;have FI:=ae (ai jc.o (ai Vw.o FH));clear FH H20';go_wp2_with fail;go_ret
     exact⟨rfl,FI.o⟩
    ·rw[jds heq]at uP
     have FU:k≠g:=fun h=>by have:=hwg h;simp only[Prod.mk.injEq]at this;exact heq this.1
     generalize wb.map Nat.toUInt8=X at *;generalize b.map Nat.toUInt8=Z at *;go_wp2_with fail;go_roundw
     case rel=>exact⟨k+1,by go_num,by omega,by omega,Vw.o⟩
     case measure=>simp[intOf];omega
   ·have FU:k≠g:=fun h=>by have:=hwg h;simp only[Prod.mk.injEq]at this;exact hwe (by rw[this.2];rfl)
    clear hcv1 Yg uP;go_wp2_with fail;go_roundw
    case rel=>exact⟨k+1,by go_num,by omega,by omega,Vw.o⟩
    case measure=>simp[intOf];omega
end OpensLaw
abbrev Fu : List (String × DataW Unit) := [("catchment/crc.halves", Rows.laid_catchment_crc_halves)]
def ja0:List Int:=[0,498536548,997073096,651767980,1994146192,1802195444,1303535960,1342533948,3988292384,4027552580,3604390888,3412177804,2607071920,2262029012,2685067896,3183342108]
theorem Lz : Tryz.prog.globalNamed "catchment/crc.halves" = some 0 := by kernel_rfl
theorem XA:(Tryz.prog.globals[0]?).map (·.type)=some 245:=by kernel_rfl
theorem XB:Tryz.prog.cellsOf 22=1:=by kernel_rfl
theorem Ui:Tryz.prog.cellsOf 245=16:=by kernel_rfl
theorem ja1:∀ i,i<16->ja0.getD i 0=((ey 4 i:Nat):Int):=by decide +kernel
theorem XC{W:World}(h:laidMetH Tryz.prog Fu W):Tab W:=by
 rw[MakeChecks.laidMetH_plain _ _ _ (by kernel_rfl)]at h;have hT : TabIs Tryz.prog W "catchment/crc.halves" .u32 ja0 := tabIs_of_head Lz XA Tryz.underlying245 Tryz.underlying22 XB Ui h
 have hc:∀ i:Nat,i<16->W.cell? ⟨0,i,none⟩=some (.int .u32 ((ey 4 i:Nat):Int)):=fun i hi=>by
  have:=hT.cell Lz i (by simpa [ja0]using hi);rw[this,ja1 i hi]
 refine⟨?_,hc⟩;have h0:=hc 0 (by omega);rcases jd4 W.heap.size with hz | hz
 ·exfalso
  unfold World.cell? at h0;simp[hz]at h0
 ·exact hz
theorem Uj(os:Os)(args:Array Value):laidMetH Tryz.prog Fu ((World.doorLaid Tryz.prog 400 os).forCall (fun _ _=>0) ⟨#[],args,[]⟩).memory :=
 laidMetH_of_parts3 (fuel:=8) (laidMet_of_run' 8 (by kernel_rfl) (by kernel_rfl)) (by kernel_rfl) (by kernel_rfl)
open Go
theorem ql:joinedFacts Tryz.prog 6 Tryz.f6 Rows.colfileOpensSpec Rows.colfileOpensRow=true:=by
 unfold joinedFacts;simp only[Bool.and_eq_true];and_intros
 all_goals (as_aux_lemma=>kernel_rfl)
end Go.Proofs.YtpljdjmpamjkhaaGreatDoor

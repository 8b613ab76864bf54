import Derived.Test.YtpljdjmpamjkhaaGreatDoorUan
import Derived.Maps.OwnIn
set_option linter.unusedVariables false
set_option linter.unusedSimpArgs false
set_option maxRecDepth 100000
set_option maxHeartbeats 4000000
namespace Go.Proofs.YtpljdjmpamjkhaaGreatDoor
open Go.RowKit Go.Lib
theorem Hc{w:World}{v:Value}{l:List Fd}(hs:Sf w v l)(f:Fd):Calls Tryz.prog 116 #[v,pW f] w fun e w'=>e=.returned (.int .i64 (fY l f:Int))/\Below w.heap.size w w':=by
 unfold pW;obtain⟨i,n,k,nd⟩:=f;simp only;have HM:jfb (fY l (i,n,k,nd)=if i<=eT l then 81 else if vG l n=false then 80 else if kO k=false then 10 else if (nd != decide (l.length=0))=true∨(l.length=0/\k=2) then 82 else 0):=ae rfl;generalize fY l (i,n,k,nd)=R at *;have HS:=ae (hs.kept (ak w (.cells #[.int .u32 (i:Int),.string n,.int .u8 (k:Int),.bool nd] 81)));have cE:=ae (ak w (.cells #[.int .u32 (i:Int),.string n,.int .u8 (k:Int),.bool nd] 81));obtain⟨c0,c1,c2,c3⟩:=iW w (.int .u32 (i:Int)) (.string n) (.int .u8 (k:Int)) (.bool nd) 81;have C1:=ae c1;have C2:=ae c2;have C3:=ae c3;have hz:w.heap.size<(w.alloc (.cells #[.int .u32 (i:Int),.string n,.int .u8 (k:Int),.bool nd] 81)).heap.size:=by rw[jdi];omega
 clear c1 c2 c3;generalize hW:w.alloc (.cells #[.int .u32 (i:Int),.string n,.int .u8 (k:Int),.bool nd] 81)=W at *;have HL:=ae (fun m=>Ha (wP HS.o m));have np:=ae (fun m=>wQ (wP HS.o m) n);obtain⟨a,cap,rfl,aY,bx⟩:=hs.form;have XU:=ae (Bc k);obtain⟨ky,hky⟩:∃ ky,((l.length:Int)==0)=ky:=⟨_,rfl⟩
 have HD:jfb (decide (l.length=0)=ky):=ae (by
  rw[← hky];by_cases h:l.length=0
  ·rw[jdy h];simp[h]
  ·rw[jds h];simp[h])
 have HLB:jfb ((l.length=0)↔ky=true):=ae (by rw[← hky];simp);rw[HD.o]at HM;clear hs aY bx;have rR:=ae (show eT l=eT l from rfl);generalize eT l=la at *;have oV:((i:Int)<=(la:Int))↔i<=la:=by omega
 go_enter Tryz.func116,Tryz.ntmps116
 go_wp2_with fail;try rw[hW]
 clear hW;by_cases hi:i<=la
 ·have hi':(i:Int)<=(la:Int):=by omega
  rw[jdf hi]at HM;clear oV hi;go_quiet ((go_at_call 162;exact Calls.quiet_of_same (HL.o _)))
  go_wp2_with fail;go_ret
  rw[HM.o];exact⟨rfl,ar cE.o _⟩
 ·have hi':¬ (i:Int)<=(la:Int):=by omega
  rw[jde hi]at HM;clear oV hi;go_quiet ((go_at_call 162;exact Calls.quiet_of_same (HL.o _)))
  have c1:=C1.o;go_wp2_with fail;refine(np.o _).mono ?_;rintro e w1 ⟨rfl,aH⟩;have hbW:=(ar (jdg W.heap.size W) _).trans aH;have aR:=ae (ai cE.o hbW);have c2:=(hbW.cell (p:=⟨w.heap.size,2,none⟩) hz).trans C2.o;have c3:=(hbW.cell (p:=⟨w.heap.size,3,none⟩) hz).trans C3.o;have C3':=ae c3;clear aH hbW c0 c1;by_cases hf:vG l n=false
  ·rw[jdf hf]at HM
   rw[hf];clear hf c2 c3;go_wp2_with fail;go_ret
   rw[HM.o];exact⟨rfl,aR.o⟩
  ·rw[jde hf]at HM
   have hf':vG l n=true:=by simpa using hf
   rw[hf'];clear hf hf' c3;go_wp2_with fail;refine(XU.o _).mono ?_;rintro e w2 ⟨rfl,rfl⟩;by_cases hk:kO k=false
   ·rw[jdf hk]at HM
    rw[hk];clear hk;go_wp2_with fail;go_ret
    rw[HM.o];exact⟨rfl,aR.o⟩
   ·rw[jde hk]at HM
    have hk':kO k=true:=by simpa using hk
    rw[hk'];clear hk hk';have c3:=C3'.o;cases nd
    ·cases ky
     ·have HR:jfb (R=0):=by
       show _=_
       rw[HM.o];exact jde (fun h=>by rcases h with h | ⟨h,_⟩;(· cases h);(· have:=HLB.o.1 h;cases this))
      clear HM;go_wp2_with fail;go_ret
      rw[HR.o];exact⟨rfl,aR.o⟩
     ·have HR:jfb (R=82):=by show _=_;rw[HM.o];exact jdf (Or.inl rfl)
      clear HM;go_wp2_with fail;go_ret
      rw[HR.o];exact⟨rfl,aR.o⟩
    ·cases ky
     ·have HR:jfb (R=82):=by show _=_;rw[HM.o];exact jdf (Or.inl rfl)
      clear HM;go_wp2_with fail;go_ret
      rw[HR.o];exact⟨rfl,aR.o⟩
     ·by_cases h2:k=2
      ·have HR:jfb (R=82):=by show _=_;rw[HM.o];exact jdf (Or.inr ⟨HLB.o.2 rfl,h2⟩)
       have h2':((k:Int)==2)=true:=by simp;omega
       clear HM h2;go_wp2_with fail;go_ret
       rw[HR.o];exact⟨rfl,aR.o⟩
      ·have HR:jfb (R=0):=by show _=_;rw[HM.o];exact jde (fun h=>by rcases h with h | ⟨_,h⟩;(· cases h);(· exact h2 h))
       have h2':((k:Int)==2)=false:=by simp;omega
       clear HM h2;go_wp2_with fail;go_ret
       rw[HR.o];exact⟨rfl,aR.o⟩
theorem qZ{w:World}{ops:Array Oper}{rest:List Oper}{o:Oper}{a:Act}{Q:Exit->Act->World->Prop}(eg:o.guard=none)(s x:Operand)
  (ho:o.op=.call { callee:=.builtin .append,args:=#[s,x],argTypes:=#[30,9] })
  (base:Nat) (v:Value) (l0:List Nat) (z:ByteArray) (hs:a.eval s=v) (aA:aD w base v l0) (hx:a.eval x=.string z)
  (hbytes:l0.length+z.size<=140737488355328) (aI:base<=w.heap.size)
  (h:∀ v' w',aD w' base v' (l0++df z)->Below base w w'->wpList Tryz.prog ops Q rest (a.put o.dst v') w') :
  wpList Tryz.prog ops Q (o::rest) a w:=by
 obtain⟨i0,hi,cm,hz1',bn⟩:=jdA jm;unfold aD at *;refine wpList_append_own_string (w:=w) eg s x 30 9 ho base 5 i0 Tryz.underlying30 Tryz.underlying9 hi cm hz1' bn v l0.length (aF .u8 l0) hs aA z hx (by unfold maxLen;omega) (by exact hbytes) aI ?_;intro v' w' o1 g1 _;refine h v' w' ?_ ((jdg base w).grown g1 aI (fun k hk=>(aA.lt k hk).1))
 have e:strCells z=aF .u8 (df z):=by
  unfold strCells aF df;rw[ByteArray.toList_eq];simp[jdT,Function.comp_def]
 rw[e]at o1;rw[cd,jdj,iR];exact o1
theorem Sh(b:Bool)(w:World):Calls Tryz.prog 166 #[.bool b] w fun e w'=>e=.returned (.int .u64 ((eU b:Nat):Int))/\w'=w:=by
 cases b
 all_goals
  go_enter Tryz.func166,Tryz.ntmps166
  go_wp2;go_ret
  exact⟨rfl,rfl⟩
theorem gq(n:Nat)(h:n<18446744073709551616):(uv n).length<=10:=bJ h
theorem yi(f:Fd)(hf:Okf f)(hs:f.2.1.size<5000)(w:World):Calls Tryz.prog 120 #[pW f] w (dw w (ij f)):=by
 unfold pW;obtain⟨i,n,k,nd⟩:=f;have h1:i<4294967296:=hf.1;have h2:k<256:=hf.2;simp only at *;have HP:jfb (ij (i,n,k,nd)=uv i++uv n.size++df n++uv k++uv (eU nd)):=ae rfl;have jT:eU nd<2:=by unfold eU;split<;>omega
 have Pz:=ae (dI i (by omega));have XV:=ae (dI n.size (by omega));have HV3:=ae (dI k (by omega));have HV4:=ae (dI (eU nd) (by omega));have LG:=ae (Sh nd);have u1:=gq i (by omega);have u2:=gq n.size (by omega);have u3:=gq k (by omega);have u4:=gq (eU nd) (by omega);have hnl:=iR n;have cE:=ae (ak w (.cells #[.int .u32 (i:Int),.string n,.int .u8 (k:Int),.bool nd] 81));have hz:w.heap.size<(w.alloc (.cells #[.int .u32 (i:Int),.string n,.int .u8 (k:Int),.bool nd] 81)).heap.size:=by rw[jdi];omega
 have HT:jfb (∀ U,Below (w.alloc (.cells #[.int .u32 (i:Int),.string n,.int .u8 (k:Int),.bool nd] 81)).heap.size (w.alloc (.cells #[.int .u32 (i:Int),.string n,.int .u8 (k:Int),.bool nd] 81)) U->U.cell? ⟨w.heap.size,0,none⟩=some (.int .u32 (i:Int))/\U.cell? ⟨w.heap.size,1,none⟩=some (.string n)/\U.cell? ⟨w.heap.size,2,none⟩=some (.int .u8 (k:Int))/\U.cell? ⟨w.heap.size,3,none⟩=some (.bool nd)):=ae (fun U h=>by
  obtain⟨c0,c1,c2,c3⟩:=iW w (.int .u32 (i:Int)) (.string n) (.int .u8 (k:Int)) (.bool nd) 81;exact⟨(h.cell (p:=⟨w.heap.size,0,none⟩) hz).trans c0,(h.cell (p:=⟨w.heap.size,1,none⟩) hz).trans c1,(h.cell (p:=⟨w.heap.size,2,none⟩) hz).trans c2,(h.cell (p:=⟨w.heap.size,3,none⟩) hz).trans c3⟩)
 generalize hW:w.alloc (.cells #[.int .u32 (i:Int),.string n,.int .u8 (k:Int),.bool nd] 81)=W at *;obtain⟨c0,c1,c2,c3⟩:=HT.o W (jdg _ _);clear hf;generalize uv i=p1 at *;generalize uv n.size=p2 at *;generalize uv k=p3 at *;generalize uv (eU nd)=p4 at *;generalize eU nd=fl at *;go_enter Tryz.func120,Tryz.ntmps120
 go_wp2_with fail;try rw[hW]
 clear hW;refine(Pz.o _).mono ?_;rintro e w1 ⟨⟨v1,rfl,o1⟩,aH⟩;have fC:=ae o1;have LH:=ae aH;clear o1 aH c0 c1 c2 c3;obtain⟨c0,c1,c2,c3⟩:=HT.o _ LH.o;go_wp2_with fail;refine(XV.o _).mono ?_;rintro e w2 ⟨⟨v2,rfl,o2⟩,aE⟩;have HO1k:=ae (fC.o.kept aE);have du:=ae o2.sv;have yA:=ae (ai LH.o aE);clear o2 aE c0 c1 c2 c3;obtain⟨c0,c1,c2,c3⟩:=HT.o _ yA.o;go_wp2_with (first | (at_builtin;refine ax rfl _ _ rfl W.heap.size _ _ p1 p2 rfl HO1k.o rfl du.o ?d1 ?d2 ?_))
 case d1=>omega
 case d2=>exact yA.o.size
 intro v3 w3 o3 aQ;have cZ:jfb (aD w3 W.heap.size v3 (p1++p2)):=ae (by simpa using o3);have UB:=ae (yA.o.trans aQ);clear o3 aQ c0 c1 c2 c3;obtain⟨c0,c1,c2,c3⟩:=HT.o _ UB.o;go_wp2_with (first | (at_builtin;refine qZ rfl _ _ rfl W.heap.size _ (p1++p2) n rfl cZ.o rfl ?d3 ?d4 ?_))
 case d3=>first | (simp only[jdj];omega) | (simp;omega) | omega
 case d4=>exact UB.o.size
 intro v4 w4 o4 bw;have eR:jfb (aD w4 W.heap.size v4 (p1++p2++df n)):=ae (by simpa using o4);have HX4:=ae (UB.o.trans bw);clear o4 bw c0 c1 c2 c3;obtain⟨c0,c1,c2,c3⟩:=HT.o _ HX4.o;go_wp2_with fail;refine(HV3.o _).mono ?_;rintro e w5 ⟨⟨v5,rfl,o5⟩,br⟩;have HO4k:=ae (eR.o.kept br);have dJ:=ae o5.sv;have Qk:=ae (ai HX4.o br);clear o5 br c0 c1 c2 c3;obtain⟨c0,c1,c2,c3⟩:=HT.o _ Qk.o;go_wp2_with (first | (at_builtin;refine ax rfl _ _ rfl W.heap.size _ _ (p1++p2++df n) p3 rfl HO4k.o rfl dJ.o ?d5 ?d6 ?_))
 case d5=>first | (simp only[jdj];omega) | (simp;omega) | omega
 case d6=>exact Qk.o.size
 intro v6 w6 o6 dP;have ng:jfb (aD w6 W.heap.size v6 (p1++p2++df n++p3)):=ae (by simpa using o6);have vD:=ae (Qk.o.trans dP);clear o6 dP c0 c1 c2 c3;obtain⟨c0,c1,c2,c3⟩:=HT.o _ vD.o;go_wp2_with fail;refine(LG.o _).mono ?_;rintro e w7 ⟨rfl,rfl⟩;go_wp2_with fail;refine(HV4.o _).mono ?_;rintro e w8 ⟨⟨v8,rfl,o8⟩,kH⟩;have HO6k:=ae (ng.o.kept kH);have HO8:=ae o8.sv;have HX8:=ae (ai vD.o kH);clear o8 kH c0 c1 c2 c3;go_wp2_with (first | (at_builtin;refine ax rfl _ _ rfl W.heap.size _ _ (p1++p2++df n++p3) p4 rfl HO6k.o rfl HO8.o ?d7 ?d8 ?_))
 case d7=>first | (simp only[jdj];omega) | (simp;omega) | omega
 case d8=>exact HX8.o.size
 intro v9 w9 o9 pB;have Us:jfb (aD w9 W.heap.size v9 (p1++p2++df n++p3++p4)):=ae (by simpa using o9);have HX9:=ae (HX8.o.trans pB);clear o9 pB;go_wp2_with fail;go_ret
 rw[HP.o];exact⟨⟨_,rfl,be Us.o cE.o.size⟩,ai cE.o HX9.o⟩
theorem pn{l:List Fd}(hz:szs l<5000){k:Nat}(hk:k<l.length):l[k].2.1.size<5000:=by
 have:=KP (jdl hk);omega
theorem fI{l:List Fd}(ho:∀ f∈l,Okf f)(hl:l.length<=100)(hz:szs l<5000)(k:Nat):(gO (l.take k)).length<=10000:=by
 have h1:=Mf (l:=l.take k) (fun f hf=>ho f (jd3 hf)) (je0 (tB l k) hz);have h2:=tB l k;have h3:(l.take k).length<=100:=by rw[jdo];omega
 omega
theorem Si{w:World}{v:Value}{l:List Fd}(hs:Sf w v l)(ho:∀ f∈l,Okf f)(hl:l.length<=100)(hz:szs l<5000)(id:Nat)(na:id<4294967296) :
  Calls Tryz.prog 80 #[.agg #[.int .u32 (id:Int),v]] w (dw w (dB id l)):=by
 obtain⟨a,cap,rfl,aY,bx⟩:=hs.form;have LJ:=ae ho;have HP:jfb (dB id l=uv id++uv l.length++gO l):=ae rfl;have rZ:=ae (fI ho hl hz);have rS:=ae (fun k=>pn (k:=k) hz);have Pz:=ae (dI id (by omega));have XV:=ae (dI l.length (by omega));have u1:=gq id (by omega);have u2:=gq l.length (by omega);have dY:=ak w (.cells #[.int .u32 (id:Int),.slice a l.length cap] 25);have FE:w.heap.size<(w.alloc (.cells #[.int .u32 (id:Int),.slice a l.length cap] 25)).heap.size:=by rw[jdi];omega
 have HT:jfb (∀ U,Below (w.alloc (.cells #[.int .u32 (id:Int),.slice a l.length cap] 25)).heap.size (w.alloc (.cells #[.int .u32 (id:Int),.slice a l.length cap] 25)) U->Sf U (.slice a l.length cap) l/\U.cell? ⟨w.heap.size,0,none⟩=some (.int .u32 (id:Int))/\U.cell? ⟨w.heap.size,1,none⟩=some (.slice a l.length cap)):=ae (fun U h=>by
  obtain⟨c0,c1⟩:=bF w (.int .u32 (id:Int)) (.slice a l.length cap) 25;exact⟨(hs.kept dY).kept h,(h.cell (p:=⟨w.heap.size,0,none⟩) FE).trans c0,(h.cell (p:=⟨w.heap.size,1,none⟩) FE).trans c1⟩)
 have cE:=ae dY;clear hs dY ho;generalize hW:w.alloc (.cells #[.int .u32 (id:Int),.slice a l.length cap] 25)=W at *;obtain⟨_,c0,c1⟩:=HT.o W (jdg _ _);generalize uv id=p1 at *;generalize uv l.length=p2 at *;go_enter Tryz.func80,Tryz.ntmps80
 go_wp2_with fail;try rw[hW]
 clear hW;refine(Pz.o _).mono ?_;rintro e w1 ⟨⟨v1,rfl,o1⟩,aH⟩;have fC:=ae o1;have LH:=ae aH;clear o1 aH c0 c1;obtain⟨_,c0,c1⟩:=HT.o _ LH.o;go_wp2_with fail;refine(XV.o _).mono ?_;rintro e w2 ⟨⟨v2,rfl,o2⟩,aE⟩;have HO1k:=ae (fC.o.kept aE);have du:=ae o2.sv;have yA:=ae (ai LH.o aE);clear o2 aE c0 c1;go_wp2_with (first | (at_builtin;refine ax rfl _ _ rfl W.heap.size _ _ p1 p2 rfl HO1k.o rfl du.o ?d1 ?d2 ?_))
 case d1=>omega
 case d2=>exact yA.o.size
 intro v3 w3 o3 aQ;have cZ:=ae o3;have UB:=ae (yA.o.trans aQ);clear o3 aQ;obtain⟨_,c0,c1⟩:=HT.o _ UB.o;go_wp2_with fail;clear c0 c1;go_loopw [3,20] (fun b i wr=>∃ k:Nat,k<=l.length/\i=.int .i64 (k:Int)/\aD wr W.heap.size b (p1++p2++gO (l.take k))/\Below W.heap.size W wr) (fun _ i _=>l.length-(intOf i).toNat)
 case atStart=>exact⟨0,by omega,rfl,by simpa [gO]using cZ.o,UB.o⟩
 case round =>
  obtain⟨k,hk,rfl,aA,az⟩:=hrel;have HO:=ae aA;have HB:=ae az;have bP:=az.size;clear aA az;by_cases aC:k<l.length
  ·obtain⟨b,off,rfl,hb,x0,x1,x2,x3⟩:=(HT.o _ HB.o).1.at aC
   have hlt':(k:Int)<(l.length:Int):=(by omega);have cT:=ae (mv aC);have HPF:=ae (yi l[k] (LJ.o _ (jdl aC)) (rS.o k aC));have hplen:=rZ.o k
   have hpf:(ij l[k]).length<=5100:=by
    have h1:=yV (LJ.o _ (jdl aC)) (by have:=rS.o k aC;omega);have h2:=rS.o k aC;omega
   generalize ij l[k]=PF at *;generalize gO (l.take k)=PL at *;generalize l[k]=f at *;obtain⟨f0,f1,f2,f3⟩:=f;unfold pW at HPF;simp only at *;have Cx:=ae (ak wr (.cells #[.int .u32 (f0:Int),.string f1,.int .u8 (f2:Int),.bool f3] 81));go_wp2_with fail;refine(HPF.o _).mono ?_;rintro e w5 ⟨⟨v5,rfl,o5⟩,br⟩;have hbT:=ai Cx.o br;have dJ:=ae (HO.o.kept hbT);have ng:=ae o5.sv;have Qk:=ae (ai HB.o hbT);clear o5 br hbT x0 x1 x2 x3;go_wp2_with (first | (at_builtin;refine ax rfl _ _ rfl W.heap.size _ _ (p1++p2++PL) PF rfl dJ.o rfl ng.o ?d3 ?d4 ?_))
   case d3=>first | (simp only[jdj];omega) | (simp;omega) | omega
   case d4=>exact Qk.o.size
   intro v7 w7 o7 jk;have iy:jfb (aD w7 W.heap.size v7 (p1++p2++PL++PF)):=ae (by simpa using o7);have HX7:=ae (Qk.o.trans jk);clear o7 jk;go_wp2_with fail;go_roundw
   case rel=>exact⟨k+1,by omega,by go_num,by rw[cT.o,← jdw];exact iy.o,HX7.o⟩
   case measure=>simp[intOf];omega
  ·obtain rfl:k=l.length:=by omega
   have gL:¬ ((l.length:Nat):Int)<(l.length:Int):=(by omega);rw[jdp]at HO;go_wp2_with fail;go_ret
   rw[HP.o];exact⟨⟨_,rfl,be HO.o cE.o.size⟩,ai cE.o HB.o⟩
theorem po{w:World}(ty:TypeId)(base:Nat)(v vx:Value)(l0 l:List Nat)(aA:aD w base v l0)(ft:Sv w vx (aF .u8 l))(hbytes:l0.length+l.length<=140737488355328)(aI:base<=w.heap.size) :
  ∃ v' w',(Builtin.append_ #[30,30] ty #[v,vx]).run Tryz.prog w=.ok v' w'/\aD w' base v' (l0++l)/\w.grownBy w' v.ownBlock/\(v'.ownBlock=v.ownBlock∨v'.ownBlock=some w.heap.size):=by
 obtain⟨i0,hi,cm,hz1',bn⟩:=jdA jm;unfold aD at *;obtain⟨ad,cap,rfl,h1,h2,h3,h4⟩:=ft;rw[ap]at *;cases ad with
 | none =>
  have hc:=h3 rfl;subst hc;have hl:l=[]:=jdF (by omega);subst hl;have hr:=jeJ (P:=Tryz.prog) (w:=w) base 30 ty 5 i0 1 Tryz.underlying30 hi v l0.length (aF .u8 l0) aA;refine⟨v,w,hr,by rw[jdB];exact aA,⟨rfl,rfl,rfl,jdh _,fun _ _ _=>rfl⟩,Or.inl rfl⟩
 | some ad =>
  obtain⟨v',w',hr,o1,g1,_,e1⟩:=run_append_own_at (P:=Tryz.prog) w base 30 ty 5 i0 (.int .u8 0) 1 1 Tryz.underlying30 hi cm hz1' bn rfl (by decide) v l0.length (aF .u8 l0) aA ad l.length cap (aF .u8 l) (by rw[ap];omega)
   (fun j u hu=>by
    have hj:j<l.length:=by
     have:=(List.getElem?_eq_some_iff.1 hu).1;rwa[ap]at this
    obtain⟨b,off,h5,_,h6⟩:=h4 (by omega);cases h5
    rw[pI];exact h6 j u hu) (fR _ _) (by unfold maxLen;omega) (by omega) aI
  refine⟨v',w',hr,?_,g1,e1⟩;rw[cd,jdj];exact o1
theorem tQ{w w':World}{base:Nat}{v:Value}{l:List Nat}(aA:aD w base v l)(hg:w.grownBy w' v.ownBlock)(aI:base<=w.heap.size):Below base w w' :=
 (jdg base w).grown hg aI (fun k hk=>(aA.lt k hk).1)
theorem re{w:World}{o:Oper}{a:Act}{K:Act->World->Prop}{Q:Exit->Act->World->Prop}(s x:Operand)
  (ho:o.op=.call { callee:=.builtin .append,args:=#[s,x],argTypes:=#[30,30] })
  (base:Nat) (v vx:Value) (l0 l:List Nat) (hs:a.eval s=v) (aA:aD w base v l0) (hx:a.eval x=vx) (ft:Sv w vx (aF .u8 l)) (hbytes:l0.length+l.length<=140737488355328) (aI:base<=w.heap.size)
  (h:∀ v' w',aD w' base v' (l0++l)->Below base w w'->w.grownBy w' v.ownBlock->(v'.ownBlock=v.ownBlock∨v'.ownBlock=some w.heap.size)->K (a.put o.dst v') w'):Oper.wp Tryz.prog o a w K Q:=by
 obtain⟨v',w',hr,h2,h3,h4⟩:=po o.type base v vx l0 l aA ft hbytes aI;unfold Oper.wp execOp;simp only[ho,resolve,invoke,builtin,Sem.run_bind,Sem.run_pure,Result.andThen_ok,jes,jdQ,jed,hs,hx,hr];exact h v' w' h2 (tQ aA h3 aI) h3 h4
theorem wR{w:World}{ops:Array Oper}{o:Oper}{a:Act}{K:Act->World->Prop}{Q:Exit->Act->World->Prop}{E:Prop}(eg:o.guard=none)(s x:Operand)
  (ho:o.op=.call { callee:=.builtin .append,args:=#[s,x],argTypes:=#[30,30] })
  (base:Nat) (v vx:Value) (l0 l:List Nat) (hs:a.eval s=v) (aA:aD w base v l0) (hx:a.eval x=vx) (ft:Sv w vx (aF .u8 l)) (hbytes:l0.length+l.length<=140737488355328) (aI:base<=w.heap.size)
  (h:∀ v' w',aD w' base v' (l0++l)->Below base w w'->w.grownBy w' v.ownBlock->(v'.ownBlock=v.ownBlock∨v'.ownBlock=some w.heap.size)->K (a.put o.dst v') w') :
  if Region.wanted o (yielded ops a.tmps)=true then Oper.wp Tryz.prog o a w K Q else E:=by
 have hw:Region.wanted o (yielded ops a.tmps)=true:=by simp[Region.wanted,eg]
 rw[jdf hw];exact re s x ho base v vx l0 l hs aA hx ft hbytes aI h
theorem aU{w:World}{ops:Array Oper}{rest:List Oper}{o:Oper}{a:Act}{Q:Exit->Act->World->Prop}(eg:o.guard=none)(s x:Operand)
  (ho:o.op=.call { callee:=.builtin .append,args:=#[s,x],argTypes:=#[30,30] })
  (base:Nat) (v vx:Value) (l0 l:List Nat) (hs:a.eval s=v) (aA:aD w base v l0) (hx:a.eval x=vx) (ft:Sv w vx (aF .u8 l)) (hbytes:l0.length+l.length<=140737488355328) (aI:base<=w.heap.size)
  (h:∀ v' w',aD w' base v' (l0++l)->Below base w w'->w.grownBy w' v.ownBlock->(v'.ownBlock=v.ownBlock∨v'.ownBlock=some w.heap.size)->wpList Tryz.prog ops Q rest (a.put o.dst v') w') :
  wpList Tryz.prog ops Q (o::rest) a w :=
 wpList_plain eg fun K hK=>re s x ho base v vx l0 l hs aA hx ft hbytes aI fun v' w' h1 h2 h3 h4=>hK _ _ (h v' w' h1 h2 h3 h4)
theorem mU{w:World}{ops:Array Oper}{o:Oper}{a:Act}{K:Act->World->Prop}{Q:Exit->Act->World->Prop}{E:Prop}(eg:o.guard=none)(s x:Operand)
  (ho:o.op=.call { callee:=.builtin .append,args:=#[s,x],argTypes:=#[30,9] })
  (base:Nat) (v:Value) (l0:List Nat) (z:ByteArray) (hs:a.eval s=v) (aA:aD w base v l0) (hx:a.eval x=.string z) (hbytes:l0.length+z.size<=140737488355328) (aI:base<=w.heap.size)
  (h:∀ v' w',aD w' base v' (l0++df z)->Below base w w'->K (a.put o.dst v') w') :
  if Region.wanted o (yielded ops a.tmps)=true then Oper.wp Tryz.prog o a w K Q else E:=by
 have hw:Region.wanted o (yielded ops a.tmps)=true:=by simp[Region.wanted,eg]
 rw[jdf hw];obtain⟨i0,hi,cm,hz1',bn⟩:=jdA jm;have hb:=aA;unfold aD at aA;obtain⟨v',w',hr,o1,g1,_⟩:=run_append_own_string (P:=Tryz.prog) (w:=w) base 30 9 o.type 5 i0 Tryz.underlying30 Tryz.underlying9 hi cm hz1' bn v l0.length (aF .u8 l0) aA z (by unfold maxLen;omega) hbytes aI;unfold Oper.wp execOp;simp only[ho,resolve,invoke,builtin,Sem.run_bind,Sem.run_pure,Result.andThen_ok,jes,jdQ,jed,hs,hx,hr];refine h v' w' ?_ (tQ hb g1 aI)
 have e:strCells z=aF .u8 (df z):=by
  unfold strCells aF df;rw[ByteArray.toList_eq];simp[jdT,Function.comp_def]
 unfold aD;rw[e]at o1;rw[cd,jdj,iR];exact o1
end Go.Proofs.YtpljdjmpamjkhaaGreatDoor

import Derived.Test.YtpljdjmpamjkhaaGreatDoorYas
import Derived.Lib.SliceRun
import Derived.Lib.EndianMore
set_option linter.unusedVariables false
set_option linter.unusedSimpArgs false
set_option maxRecDepth 100000
set_option maxHeartbeats 4000000
namespace Go.Proofs.YtpljdjmpamjkhaaGreatDoor
open Go.RowKit Go.Lib
def celS(st:Stt):List Value:=[.int .i64 st.rows,.int .i64 st.nulls,.bool st.some,.bool st.high,.int .u8 (st.lo.1:Int),.int .i64 st.lo.2.1,.string (am st.lo.2.2),.int .u8 (st.hi.1:Int),.int .i64 st.hi.2.1,.string (am st.hi.2.2)]
def ua(st:Stt):Value:=.agg #[.int .i64 st.rows,.int .i64 st.nulls,.bool st.some,.bool st.high,.int .u8 (st.lo.1:Int),.int .i64 st.lo.2.1,.string (am st.lo.2.2),.int .u8 (st.hi.1:Int),.int .i64 st.hi.2.1,.string (am st.hi.2.2)]
def Stb(W:World)(q:Nat)(st:Stt):Prop:=W.heap[q]?=some (.cells #[.int .i64 st.rows,.int .i64 st.nulls,.bool st.some,.bool st.high,.int .u8 (st.lo.1:Int),.int .i64 st.lo.2.1,.string (am st.lo.2.2),.int .u8 (st.hi.1:Int),.int .i64 st.hi.2.1,.string (am st.hi.2.2)] 54 (0,0))
def FY(W:World)(b off:Nat)(st:Stt):Prop:=b<W.heap.size/\(W.cell? ⟨b,off,none⟩=some (.int .i64 st.rows)/\W.cell? ⟨b,off+1,none⟩=some (.int .i64 st.nulls)/\W.cell? ⟨b,off+2,none⟩=some (.bool st.some)/\W.cell? ⟨b,off+3,none⟩=some (.bool st.high))/\(W.cell? ⟨b,off+4,none⟩=some (.int .u8 (st.lo.1:Int))/\W.cell? ⟨b,off+5,none⟩=some (.int .i64 st.lo.2.1)/\W.cell? ⟨b,off+6,none⟩=some (.string (am st.lo.2.2)))/\(W.cell? ⟨b,off+7,none⟩=some (.int .u8 (st.hi.1:Int))/\W.cell? ⟨b,off+8,none⟩=some (.int .i64 st.hi.2.1)/\W.cell? ⟨b,off+9,none⟩=some (.string (am st.hi.2.2)))
theorem FY.kept{W W':World}{b off:Nat}{st:Stt}(h:FY W b off st)(hb:Below W.heap.size W W'):FY W' b off st:=by
 obtain⟨h0,⟨a1,a2,a3,a4⟩,⟨a5,a6,a7⟩,a8,a9,a10⟩:=h;have e:∀ o,W'.cell? ⟨b,o,none⟩=W.cell? ⟨b,o,none⟩:=fun o=>(kI hb).1 b o h0
 exact⟨Z9 h0 hb.size,⟨by rw[e];exact a1,by rw[e];exact a2,by rw[e];exact a3,by rw[e];exact a4⟩,⟨by rw[e];exact a5,by rw[e];exact a6,by rw[e];exact a7⟩,by rw[e];exact a8,by rw[e];exact a9,by rw[e];exact a10⟩
theorem Stb.at{W:World}{q:Nat}{st:Stt}(h:Stb W q st):FY W q 0 st:=by
 unfold Stb at h;exact⟨(Array.getElem?_eq_some_iff.1 h).1,⟨by rw[ax h];rfl,by rw[ax h];rfl,by rw[ax h];rfl,by rw[ax h];rfl⟩,⟨by rw[ax h];rfl,by rw[ax h];rfl,by rw[ax h];rfl⟩,by rw[ax h];rfl,by rw[ax h];rfl,by rw[ax h];rfl⟩
theorem Stb.new(w:World)(st:Stt):Stb (w.alloc (.cells #[.int .i64 st.rows,.int .i64 st.nulls,.bool st.some,.bool st.high,.int .u8 (st.lo.1:Int),.int .i64 st.lo.2.1,.string (am st.lo.2.2),.int .u8 (st.hi.1:Int),.int .i64 st.hi.2.1,.string (am st.hi.2.2)] 54)) w.heap.size st:=heap_alloc_new w _
def Oks(st:Stt):Prop:=Okc st.lo/\Okc st.hi
theorem set3{B:Nat}{w W:World}(h:Below B w W){p:Nat}(hp:B<=p)(x y z:Value):Below B w (((W.setCell ⟨p,0,none⟩ x).setCell ⟨p,1,none⟩ y).setCell ⟨p,2,none⟩ z) :=
 ((h.setCell (p:=⟨p,0,none⟩) hp _).setCell (p:=⟨p,1,none⟩) hp _).setCell (p:=⟨p,2,none⟩) hp _
theorem W7(u:Bool)(c:Cl)(st:Stt):mM u 1 c st=(!(st.high && decide (cO (ch c) (ch st.lo)=0) && decide (cO (ch c) (ch st.hi)=0) && sj (ch c)),u,decide (0<=cO (ch c) (ch st.lo)) && !(st.high && decide (0<cO (ch c) (ch st.hi)))):=rfl
theorem W8(u:Bool)(c:Cl)(st:Stt):mM u 2 c st=(!(st.high && decide (0<cO (ch c) (ch st.hi))),u,decide (0<cO (ch c) (ch st.lo))):=rfl
theorem W9(u:Bool)(c:Cl)(st:Stt):mM u 3 c st=(!(st.high && decide (0<=cO (ch c) (ch st.hi))),u,decide (0<=cO (ch c) (ch st.lo))):=rfl
theorem Xa(u:Bool)(c:Cl)(st:Stt):mM u 4 c st=(true,u,true):=rfl
theorem Xb(u:Bool)(op:Nat)(c:Cl)(st:Stt)(h:¬ (1<=op/\op<=4)):mM u op c st=(true,true,true):=by
 unfold mM;rw[if_neg (by omega),if_neg (by omega),if_neg (by omega),if_neg (by omega)]
def PW(w X:World)(b off op f:Nat)(c:Cl)(kv:Value)(u:Bool)(st:Stt):Prop:=Below w.heap.size w X/\Flg X w.heap.size (false,u,false)/\Stb X (w.heap.size+1) st/\Flg X (w.heap.size+1+1) (false,false,false)/\gH X b off op f c kv
theorem PW.kept{w X Y:World}{b off op f:Nat}{c:Cl}{kv:Value}{u:Bool}{st:Stt}(h:PW w X b off op f c kv u st)(hb:Below X.heap.size X Y):PW w Y b off op f c kv u st:=by
 obtain⟨h1,h2,h3,h4,h5⟩:=h;refine⟨ai h1 hb,h2.kept hb,?_,h4.kept hb,h5.kept hb⟩;unfold Stb at *;rw[hb.block _ ((Array.getElem?_eq_some_iff.1 h3).1)];exact h3
theorem K8(a b:Cl):cO b a=- cO a b:=TM _ _ _ _ _ _
theorem FZ(a b:Cl):cO a b=-1∨cO a b=0∨cO a b=1:=PN _ _ _ _ _ _
def JH(P:Cl->Bool)(cs:List Cl)(z:Int):Prop:=(z=-1/\∀ j (h:j<cs.length),P cs[j]=false)∨(∃ k,∃(h:k<cs.length),z=(k:Int)/\P cs[k]=true/\∀ j (h:j<cs.length),j<k->P cs[j]=false)
theorem Dc{w:World}{v:Value}{cs:List Cl}(hs:Sv w v (aI cs))(hf:∀ c∈cs,aU c):Calls Tryz.prog 143 #[v,.func (.func 99) #[] #[]] w fun e w'=>(∃ z:Int,e=.returned (.int .i64 z)/\JH (fun c=>decide (c.1=0)) cs z)/\Below w.heap.size w w':=by
 have HS:=ae hs;have HF:=ae hf;obtain⟨a,cap,rfl,aX,bw⟩:=hs.form1;rw[aF]at *;have hcm':cap<=9223372036854775807:=by unfold maxLen at bw;omega
 clear hs hf bw;go_enter Tryz.func143,Tryz.ntmps143
 go_wp2_with fail;go_loopw [8] (fun i wr=>∃ k:Nat,k<=cs.length/\i=.int .i64 (k:Int)/\(∀ j (h:j<cs.length),j<k->(fun c:Cl=>decide (c.1=0)) cs[j]=false)/\Below w.heap.size w wr) (fun i _=>cs.length-(intOf i).toNat)
 case atStart=>exact⟨0,by omega,rfl,fun j h hj=>by omega,ZQ _ _⟩
 case round =>
  obtain⟨k,hk,rfl,cU,ay⟩:=hrel;have HA:=ae cU;have HB:=ae ay;clear cU ay;by_cases aB:k<cs.length
  ·obtain⟨b,off,rfl,hb,z⟩:=(HS.out.kept HB.out).at1 (cK aB)
   have hlt':(k:Int)<(cs.length:Int):=by omega
   have HC:=ae (wo (HF.out cs[k] (ZV aB)));have HP:Hid ((fun c:Cl=>decide (c.1=0)) cs[k]=(fun c:Cl=>decide (c.1=0)) cs[k]):=ae rfl;obtain⟨pv,X7⟩:∃ pv,pv=(fun c:Cl=>decide (c.1=0)) cs[k]:=⟨_,rfl⟩;have SU:=ae X7;rw[show (decide (cs[k].1=0))=pv from X7.symm]at HC;clear X7 HP;generalize dP:cs[k]=c at *;have mT:=ae dP;clear dP;go_wp2_with fail;refine(HC.out _).mono ?_;rintro e w2 ⟨rfl,aD⟩;have aN:=ae (ai HB.out aD);clear aD;cases pv
   ·go_wp2_with fail
    go_roundw
    case rel=>exact⟨k+1,by omega,by go_num,fun j h hj=>by
     by_cases hjk:j=k
     ·subst hjk
      rw[mT.out];exact SU.out.symm
     ·exact HA.out j h (by omega),aN.out⟩
    case measure=>simp[intOf];omega
   ·go_wp2_with fail
    go_ret
    exact⟨⟨(k:Int),rfl,Or.inr ⟨k,aB,rfl,by rw[mT.out];exact SU.out.symm,HA.out⟩⟩,aN.out⟩
  ·obtain rfl:k=cs.length:=by omega
   have gJ:¬ ((cs.length:Nat):Int)<(cs.length:Int):=by omega
   go_wp2_with fail;go_ret
   exact⟨⟨-1,rfl,Or.inl ⟨rfl,fun j h=>HA.out j h h⟩⟩,HB.out⟩
theorem wt{w:World}{v:Value}{cs:List Cl}(hs:Sv w v (aI cs))(hf:∀ c∈cs,aU c):Calls Tryz.prog 143 #[v,.func (.func 102) #[] #[]] w fun e w'=>(∃ z:Int,e=.returned (.int .i64 z)/\JH (fun c=>!dI (lb (am c.2.2))) cs z)/\Below w.heap.size w w':=by
 have HS:=ae hs;have HF:=ae hf;obtain⟨a,cap,rfl,aX,bw⟩:=hs.form1;rw[aF]at *;have hcm':cap<=9223372036854775807:=by unfold maxLen at bw;omega
 clear hs hf bw;go_enter Tryz.func143,Tryz.ntmps143
 go_wp2_with fail;go_loopw [8] (fun i wr=>∃ k:Nat,k<=cs.length/\i=.int .i64 (k:Int)/\(∀ j (h:j<cs.length),j<k->(fun c:Cl=>!dI (lb (am c.2.2))) cs[j]=false)/\Below w.heap.size w wr) (fun i _=>cs.length-(intOf i).toNat)
 case atStart=>exact⟨0,by omega,rfl,fun j h hj=>by omega,ZQ _ _⟩
 case round =>
  obtain⟨k,hk,rfl,cU,ay⟩:=hrel;have HA:=ae cU;have HB:=ae ay;clear cU ay;by_cases aB:k<cs.length
  ·obtain⟨b,off,rfl,hb,z⟩:=(HS.out.kept HB.out).at1 (cK aB)
   have hlt':(k:Int)<(cs.length:Int):=by omega
   have HC:=ae (Db (HF.out cs[k] (ZV aB)));have HP:Hid ((fun c:Cl=>!dI (lb (am c.2.2))) cs[k]=(fun c:Cl=>!dI (lb (am c.2.2))) cs[k]):=ae rfl;obtain⟨pv,X7⟩:∃ pv,pv=(fun c:Cl=>!dI (lb (am c.2.2))) cs[k]:=⟨_,rfl⟩;have SU:=ae X7;rw[show (!dI (lb (am cs[k].2.2)))=pv from X7.symm]at HC;clear X7 HP;generalize dP:cs[k]=c at *;have mT:=ae dP;clear dP;go_wp2_with fail;refine(HC.out _).mono ?_;rintro e w2 ⟨rfl,aD⟩;have aN:=ae (ai HB.out aD);clear aD;cases pv
   ·go_wp2_with fail
    go_roundw
    case rel=>exact⟨k+1,by omega,by go_num,fun j h hj=>by
     by_cases hjk:j=k
     ·subst hjk
      rw[mT.out];exact SU.out.symm
     ·exact HA.out j h (by omega),aN.out⟩
    case measure=>simp[intOf];omega
   ·go_wp2_with fail
    go_ret
    exact⟨⟨(k:Int),rfl,Or.inr ⟨k,aB,rfl,by rw[mT.out];exact SU.out.symm,HA.out⟩⟩,aN.out⟩
  ·obtain rfl:k=cs.length:=by omega
   have gJ:¬ ((cs.length:Nat):Int)<(cs.length:Int):=by omega
   go_wp2_with fail;go_ret
   exact⟨⟨-1,rfl,Or.inl ⟨rfl,fun j h=>HA.out j h h⟩⟩,HB.out⟩
theorem sq{w:World}{ops:Array Oper}{rest:List Oper}{o:Oper}{a:Act}{Q:Exit->Act->World->Prop}(ee:o.guard=none)(s x:Operand)
  (ho:o.op=.call { callee:=.builtin .append,args:=#[s,x],argTypes:=#[79,79] })
  (base:Nat) (v:Value) (ad:Addr) (cap:Nat) (l0 l:List Cl) (hs:a.eval s=v) (az:OwnV w base v l0) (hx:a.eval x=.slice (some ad) l.length cap) (fo:Sv w (.slice (some ad) l.length cap) (aI l))
  (hbytes:l0.length+l.length<=100000) (aH:base<=w.heap.size)
  (h:∀ v' w',OwnV w' base v' (l0++l)->Below base w w'->wpList Tryz.prog ops Q rest (a.put o.dst v') w') :
  wpList Tryz.prog ops Q (o::rest) a w:=by
 obtain⟨i0,hi,ce,hz1',bm⟩:=info_parts uQ;unfold OwnV at *;obtain⟨ad',cap',VP,h1,h2,h3,h4⟩:=fo;simp only[Value.slice.injEq]at VP;obtain⟨rfl,_,rfl⟩:=VP;rw[aF]at *;refine wpList_append_own_at (w:=w) ee s x 79 ho base 78 i0 .nilIface 1 16 Tryz.underlying79 hi ce hz1' bm rfl (by decide) v l0.length (aI l0) hs az ad l.length cap (aI l) hx (by rw[aF];omega) ?_ (xE l) (by unfold maxLen;omega) (by omega) aH ?_
 ·intro j u hu
  have hj:j<l.length:=by
   have:=(List.getElem?_eq_some_iff.1 hu).1;rwa[aF]at this
  obtain⟨b,off,h5,_,h6⟩:=h4 (by omega);cases h5
  rw[pp];exact h6 j u hu
 ·intro v' w' o1 g1 _ _
  refine h v' w' ?_ ((ZQ base w).grown g1 aH (fun k hk=>(az.lt k hk).1));rw[me,ZT];exact o1
theorem pK{w:World}{v:Value}{cs:List Cl}(hs:Sv w v (aI cs))(hl:cs.length<=1000):Calls Tryz.prog 57 #[v] w fun e w'=>(∃ v',e=.returned v'/\OwnV w' w.heap.size v' cs)/\Below w.heap.size w w':=by
 have HS:=ae hs;obtain⟨ad,cap,rfl,h1,h2,h3,h4⟩:=hs;rw[aF]at *;cases ad with
 | none =>
  have hc:=h3 rfl;subst hc;have pZ:cs=[]:=jab (by omega);subst pZ;have hq:(binOp .eql 79 (.slice none 0 0) (.slice none 0 0)).run Tryz.prog w=.ok (.bool true) w:=run_eql_slice_nil w 79 78 none 0 0 0 0 Tryz.underlying79;go_enter Tryz.func57,Tryz.ntmps57
  go_wp2_with fail;go_ret
  exact⟨⟨_,rfl,OwnV.nil _ _⟩,ZQ _ _⟩
 | some ad =>
  have HN:Hid (OwnV (w.alloc (.cells #[] 78)) w.heap.size (.slice (some ⟨w.heap.size,0,none⟩) 0 0) []):=ae (jaT (e:=78) (size:=1) w #[] 0 (base:=w.heap.size) (ZR _) (by unfold maxLen;omega) rfl);have gC:=ae (HS.out.kept (ak w (.cells #[] 78)));clear h3 h4;have hq:(binOp .eql 79 (.slice (some ad) cs.length cap) (.slice none 0 0)).run Tryz.prog w=.ok (.bool false) w:=run_eql_slice_nil w 79 78 (some ad) cs.length cap 0 0 Tryz.underlying79;go_enter Tryz.func57,Tryz.ntmps57
  go_wp2_with (first | (at_builtin;refine sq rfl _ _ rfl w.heap.size _ ad cap [] cs rfl ?q1 rfl ?q2 ?c1 ?c2 ?_))
  case q1=>exact HN.out
  case q2=>exact gC.out
  case c1=>simp;omega
  case c2=>rw[ZS];omega
  intro v3 w3 o3 aP;have cX:=ae o3;have bM:=ae ((ak w (.cells #[] 78)).trans aP);clear o3 aP;go_wp2_with fail;go_ret
  exact⟨⟨_,rfl,cX.out⟩,bM.out⟩
def aY(cs:List Cl):List Cl:=cs.filter fun c=>!decide (c.1=0)
theorem Dd{cs:List Cl}(h:∀ j (h:j<cs.length),decide (cs[j].1=0)=false):aY cs=cs:=by
 unfold aY;rw[List.filter_eq_self];intro c hc;obtain⟨j,hj,rfl⟩:=List.mem_iff_getElem.1 hc;rw[h j hj];rfl
theorem sw{cs:List Cl}{j:Nat}(h:j<cs.length):aY (cs.take (j+1))=aY (cs.take j)++(if cs[j].1=0 then [] else [cs[j]]):=by
 unfold aY;rw[List.take_add_one,List.getElem?_eq_getElem h,jbi];congr 1
 by_cases hc:cs[j].1=0
 ·simp[hc]
 ·simp[hc]
def Del(cs:List Cl)(xs:List Value)(i j:Nat):Prop:=xs.length=cs.length/\i<j/\j<=cs.length/\xs.take i=aI (aY (cs.take j))/\xs.drop j=aI (cs.drop j)
theorem Del.skip{cs:List Cl}{xs:List Value}{i j:Nat}(h:Del cs xs i j)(hj:j<cs.length)(hn:cs[j].1=0):Del cs xs i (j+1):=by
 obtain⟨h1,h2,h3,h4,h5⟩:=h;refine⟨h1,by omega,by omega,?_,?_⟩
 ·rw[sw hj,if_pos hn,Z7]
  exact h4
 ·rw[← jbb,h5]
  unfold aI;rw[← List.map_drop,jbb]
theorem Del.keep{cs:List Cl}{xs:List Value}{i j:Nat}(h:Del cs xs i j)(hj:j<cs.length)(hn:¬ cs[j].1=0):Del cs (xs.set i (de cs[j])) (i+1) (j+1):=by
 obtain⟨h1,h2,h3,h4,h5⟩:=h;refine⟨by rw[ja4];exact h1,by omega,by omega,?_,?_⟩
 ·rw[sw hj,if_neg hn,me,← h4,List.take_add_one,List.take_set_of_le (by omega),List.getElem?_set_self (by omega)]
  rfl
 ·rw[List.drop_set_of_lt (by omega),← jbb,h5]
  unfold aI;rw[← List.map_drop,jbb]
theorem Del.get{cs:List Cl}{xs:List Value}{i j:Nat}(h:Del cs xs i j)(hj:j<cs.length):xs[j]?=some (de cs[j]):=by
 obtain⟨h1,h2,h3,h4,h5⟩:=h;have:=congrArg (fun l=>l[0]?) h5;simp only[List.getElem?_drop,jaC]at this;rw[this];unfold aI;rw[List.getElem?_map,List.getElem?_drop,jaC,List.getElem?_eq_getElem hj];rfl
theorem Del.start{cs:List Cl}{k:Nat}(hk:k<cs.length)(hn:cs[k].1=0)(cU:∀ j (h:j<cs.length),j<k->decide (cs[j].1=0)=false):Del cs (aI cs) k (k+1):=by
 refine⟨aF _,by omega,by omega,?_,?_⟩
 ·rw[sw hk,if_pos hn,Z7,Dd (cs:=cs.take k)]
  ·unfold aI
   rw[ja6]
  ·intro j hj
   rw[List.getElem_take];exact cU j (by rw[ZX]at hj;omega) (by rw[ZX]at hj;omega)
 ·unfold aI
  rw[List.map_drop]
theorem Del.len{cs:List Cl}{xs:List Value}{i j:Nat}(h:Del cs xs i j):(aY (cs.take j)).length=i:=by
 obtain⟨h1,h2,h3,h4,h5⟩:=h;have:=congrArg List.length h4;rw[aF,ZX]at this;omega
theorem wC{w:World}{B:Nat}{v:Value}{cs:List Cl}(ho:OwnV w B v cs)(hf:∀ c∈cs,aU c)(hBw:B<=w.heap.size):Calls Tryz.prog 98 #[v,.func (.func 99) #[] #[]] w fun e w'=>(∃ v',e=.returned v'/\Sv w' v' (aI (aY cs)))/\Below B w w':=by
 have HO:=ae ho;have HF:=ae hf;obtain⟨a,cap,rfl,aX,bw⟩:=aM ho;have hcm':cap<=9223372036854775807:=by unfold maxLen at bw;omega
 have HI:=ae (Dc ho.sv hf);have Hx:=ae bw;clear ho hf bw;go_enter Tryz.func98,Tryz.ntmps98
 go_wp2_with fail;refine HI.out.mono ?_;rintro e w1 ⟨⟨z,rfl,hz⟩,aG⟩;have aQ:=ae (aG.mono hBw);have fA:=ae (HO.out.kept aG);clear aG HI HO;rcases hz with ⟨rfl,cU⟩ | ⟨k0,pY,rfl,hp,cU⟩
 ·have HN:=ae (Dd cU)
  clear cU;go_wp2_with fail;go_ret
  refine⟨⟨_,rfl,?_⟩,aQ.out⟩;rw[HN.out];exact fA.out.sv
 ·have HDS:=ae (Del.start pY (by simpa using hp) cU)
  obtain⟨g,cap',gJ,eQ,gK,_⟩:=(rN fA.out).2 (by omega);simp only[Value.slice.injEq]at gJ;obtain⟨rfl,_,rfl⟩:=gJ;have qa:((k0:Int)==-1)=false:=Z1.2 (by omega);clear hp cU;go_wp2_with fail;go_loopw [5,6] (fun a b wr=>∃(i j:Nat) (xs:List Value),a=.int .i64 (i:Int)/\b=.int .i64 (j:Int)/\Del cs xs i j/\wr.ownsRow B 78 1 (.slice (some ⟨g,0,none⟩) cs.length cap) cs.length xs/\Below B w wr) (fun _ b _=>cs.length-(intOf b).toNat)
  case atStart=>exact⟨k0,k0+1,_,rfl,by go_num,HDS.out,fA.out,aQ.out⟩
  case round =>
   obtain⟨i,j,xs,rfl,rfl,ut,how,ay⟩:=hrel;have HD:=ae ut;have HO:=ae how;have HB:=ae ay;have Mq:=ut.2.1;have hjn:=ut.2.2.1;by_cases aB:j<cs.length
   ·have hlt':(j:Int)<(cs.length:Int):=by omega
    have cj:=(how.cellAt j (by omega)).trans (ut.get aB);have fi:=how.frozenAt i
    obtain⟨ci,hci⟩:∃ u,wr.cell? ⟨g,i,none⟩=some u:=by
     refine⟨xs[i]'(by have:=ut.1;omega),?_⟩;rw[how.cellAt i (by omega),List.getElem?_eq_getElem]
    have HC:=ae (wo (HF.out cs[j] (ZV aB)));have HSK:=ae (ut.skip aB);have HKP:=ae (ut.keep aB);clear ut how ay;generalize dP:cs[j]=c at *;clear dP;have je:(i:Int)<(cs.length:Int):=by omega
    go_wp2_with fail;refine(HC.out _).mono ?_;rintro e w3 ⟨rfl,aP⟩;have bM:=ae (HB.out.trans (aP.mono (ZZ hBw HB.out.size)));have cX:=ae (bH HO.out aP);have fi3:=cX.out.frozenAt i;have ci3:=(aP.cell (p:=⟨g,i,none⟩) (show g<wr.heap.size by have:=HO.out.lt g rfl;omega)).trans hci;clear aP fi cj hci;by_cases oD:c.1=0
    ·rw[show decide (c.1=0)=true from decide_eq_true oD]
     have yl:=ae (HSK.out oD);go_wp2_with fail;go_roundw
     case rel=>exact⟨i,j+1,xs,rfl,by go_num,yl.out,cX.out,bM.out⟩
     case measure=>simp[intOf];omega
    ·rw[show decide (c.1=0)=false from decide_eq_false oD]
     have yl:=ae (HKP.out oD);obtain⟨ty,u,hvc⟩:=lz c oD;rw[hvc]at yl ⊢;clear hvc HC HKP HSK;go_wp2_with fail;go_roundw
     case rel=>exact⟨i+1,j+1,_,by go_num,by go_num,yl.out,(cX.out.stored i _).1,bM.out.setCell (p:=⟨g,i,none⟩) gK _⟩
     case measure=>simp[intOf];omega
   ·obtain rfl:j=cs.length:=by omega
    have gJ:¬ ((cs.length:Nat):Int)<(cs.length:Int):=by omega
    have J0:Hid ((aY cs).length=i):=ae (by have:=ut.len;rwa[ZY]at this);have ru:Hid (xs.take i=aI (aY cs)):=ae (by have:=ut.2.2.2.1;rwa[ZY]at this);have je:(i:Int)<=(cs.length:Int):=by omega
    have hin2:i<=cs.length:=by omega
    have VH:=ut.1;have hz61:∀ w,(zeroValue 78).run Tryz.prog w=.ok .nilIface w:=fun w=>by kernel_rfl
    have eO:∀ ty,(Builtin.clear_ #[79] ty #[.slice (some ⟨g,i,none⟩) (cs.length-i) (cap-i)]).run Tryz.prog wr=.ok (.tuple #[]) (wr.setCells g i (List.replicate (cs.length-i) .nilIface)):=fun ty=>run_clear_slice wr 79 78 ty .nilIface Tryz.underlying79 hz61 rfl rfl g i (cs.length-i) (cap-i) (by omega) (fun t ht=>by
     rw[how.cellAt (i+t) (by omega),List.getElem?_eq_getElem (by omega)];rfl) (fun t ht=>how.frozenAt (i+t))
    clear hz61
    have zL:Hid (Sv (wr.setCells g i (List.replicate (cs.length-i) .nilIface)) (.slice (some ⟨g,0,none⟩) i cap) (aI (aY cs))):=ae ⟨some ⟨g,0,none⟩,cap,by rw[aF,J0.out],by rw[aF,J0.out];omega,Hx.out,fun h=>by simp at h,fun h0=>⟨g,0,rfl,by
     have:=(below_setCells_w (B:=0) (g:=g) (jav _) (List.replicate (cs.length-i) .nilIface) i wr).size;have:=how.lt g rfl;omega,fun t x hx=>by
     have ht:t<i:=by
      have:=(List.getElem?_eq_some_iff.1 hx).1;rw[aF,J0.out]at this;exact this
     rw[jaf,World.cell?_setCells_out g _ i wr ⟨g,t,none⟩ (fun _ _=>Or.inl ht),how.cellAt t (by omega)];rw[← ru.out,List.getElem?_take_of_lt ht]at hx;exact hx⟩⟩
    have tS:=ae (HB.out.trans (below_setCells_w gK (List.replicate (cs.length-i) .nilIface) i wr));clear ut how ay VH;go_wp2_with fail;go_ret
    exact⟨⟨_,rfl,zL.out⟩,tS.out⟩
theorem JH.any{P:Cl->Bool}{cs:List Cl}{z:Int}(h:JH P cs z):decide (z>=0)=cs.any P:=by
 rcases h with ⟨rfl,h⟩ | ⟨k,hk,rfl,h,_⟩
 ·rw[show decide ((-1:Int)>=0)=false from rfl,eq_comm,List.any_eq_false]
  intro c hc;obtain⟨j,hj,rfl⟩:=List.mem_iff_getElem.1 hc;simp[h j hj]
 ·rw[show decide ((k:Int)>=0)=true from decide_eq_true (by omega),eq_comm,List.any_eq_true]
  exact⟨cs[k],ZV hk,h⟩
def eK(c:Cl):Bool:=dI (lb (am c.2.2))
theorem wD{w:World}{v:Value}{cs:List Cl}(hs:Sv w v (aI cs))(hf:∀ c∈cs,aU c):Calls Tryz.prog 101 #[v,.func (.func 102) #[] #[]] w fun e w'=>e=.returned (.bool (!cs.all eK))/\Below w.heap.size w w':=by
 have HC:=ae (wt hs hf);obtain⟨a,cap,rfl,aX,bw⟩:=hs.form1;clear hs hf;go_enter Tryz.func101,Tryz.ntmps101
 go_wp2_with fail;refine HC.out.mono ?_;rintro e w1 ⟨⟨z,rfl,hz⟩,hb⟩
 have HZ:Hid (decide (z>=0)=!cs.all eK):=ae (by
  rw[hz.any,List.not_all_eq_any_not];rfl)
 clear hz;go_wp2_with fail;go_ret
 rw[← HZ.out];exact⟨rfl,hb⟩
def fX(m:Cl):List Cl->Cl
 | []=>m
 | x::r=>fX (if cO x m<0 then x else m) r
def eC(m:Cl):List Cl->Cl
 | []=>m
 | x::r=>eC (if 0<cO x m then x else m) r
theorem K9{m:Cl}{cs:List Cl}{i:Nat}(h:i<cs.length):fX m (cs.drop i)=fX (if cO cs[i] m<0 then cs[i] else m) (cs.drop (i+1)):=by
 rw[jar h];rfl
theorem La{m:Cl}{cs:List Cl}{i:Nat}(h:i<cs.length):eC m (cs.drop i)=eC (if 0<cO cs[i] m then cs[i] else m) (cs.drop (i+1)):=by
 rw[jar h];rfl
theorem PX{m:Cl}{cs:List Cl}:fX m (cs.drop cs.length)=m:=by rw[jaE];rfl
theorem PY{m:Cl}{cs:List Cl}:eC m (cs.drop cs.length)=m:=by rw[jaE];rfl
theorem lN{P:Cl->Prop}:∀{cs:List Cl} {m:Cl},P m->(∀ c∈cs,P c)->P (fX m cs)
 | [],m,h,_=>h
 | x::r,m,h,hr=>by
  unfold fX;refine lN ?_ fun c hc=>hr c (by simp[hc])
  split
  ·exact hr x (by simp)
  ·exact h
theorem nt{P:Cl->Prop}:∀{cs:List Cl} {m:Cl},P m->(∀ c∈cs,P c)->P (eC m cs)
 | [],m,h,_=>h
 | x::r,m,h,hr=>by
  unfold eC;refine nt ?_ fun c hc=>hr c (by simp[hc])
  split
  ·exact hr x (by simp)
  ·exact h
theorem PZ{w:World}{v:Value}{cs:List Cl}(hs:Sv w v (aI cs))(hf:∀ c∈cs,aU c)(fO:0<cs.length):Calls Tryz.prog 104 #[v,.func (.func 105) #[] #[]] w fun e w'=>e=.returned (de (fX cs[0] (cs.drop 1)))/\Below w.heap.size w w':=by
 have HS:=ae hs;have HF:=ae hf;have HR:Hid (∃ R,R=fX cs[0] (cs.drop 1)):=ae ⟨_,rfl⟩;obtain⟨R,hR⟩:=HR.out;have i6:=ae hR;rw[← hR];clear hR HR;obtain⟨a,cap,rfl,aX,bw⟩:=hs.form1;rw[aF]at *;obtain⟨b0,off0,rfl,dW,z0⟩:=hs.at1 (cK fO);have hcm':cap<=9223372036854775807:=by unfold maxLen at bw;omega
 have M4:=ae (hf cs[0] (ZV fO));have hge1:¬ (cs.length:Int)<1:=by omega
 have hlt0:(0:Int)<(cs.length:Int):=by omega
 rw[jaC]at z0;clear hs hf bw;generalize oD:cs[0]=c0 at *;clear oD;go_enter Tryz.func104,Tryz.ntmps104
 go_wp2_with fail;clear z0;go_loopw [5,6] (fun s i wr=>∃(k:Nat) (m:Cl),1<=k/\k<=cs.length/\i=.int .i64 (k:Int)/\s=de m/\aU m/\R=fX m (cs.drop k)/\Below w.heap.size w wr) (fun _ i _=>cs.length-(intOf i).toNat)
 case atStart=>exact⟨1,c0,by omega,by omega,rfl,rfl,M4.out,i6.out,ZQ _ _⟩
 case round =>
  obtain⟨k,m,p9,hk,rfl,rfl,SV,lq,ay⟩:=hrel;have lw:=ae SV;have HE:=ae lq;have HB:=ae ay;clear SV lq ay i6;by_cases aB:k<cs.length
  ·obtain⟨b,off,he,hb,z⟩:=(HS.out.kept HB.out).at1 (cK aB)
   simp only[Option.some.injEq,Addr.mk.injEq,and_true]at he;obtain⟨rfl,rfl⟩:=he;have hlt':(k:Int)<(cs.length:Int):=by omega
   have Bx:=ae (HF.out cs[k] (ZV aB));have HT:=ae (HE.out.trans (K9 aB));generalize cs[k]=c at *;have HC:=ae (fun W=>kn Bx.out.val lw.out.val W);rw[show cv (c.1:Int) c.2.1 (am c.2.2) (m.1:Int) m.2.1 (am m.2.2)=cO c m from rfl]at HC;generalize cO c m=q at *;clear HE;go_wp2_with fail;refine(HC.out _).mono ?_;rintro e w2 ⟨rfl,aD⟩;have aN:=ae (ai HB.out aD);have z2:=(aD.cell (p:=⟨b0,off0+k,none⟩) hb).trans z;clear aD z;by_cases hq:q<0
   ·rw[if_pos hq]at HT
    go_wp2_with fail;go_roundw
    case rel=>exact⟨k+1,c,by omega,by omega,by go_num,rfl,Bx.out,HT.out,aN.out⟩
    case measure=>simp[intOf];omega
   ·rw[if_neg hq]at HT
    go_wp2_with fail;go_roundw
    case rel=>exact⟨k+1,m,by omega,by omega,by go_num,rfl,lw.out,HT.out,aN.out⟩
    case measure=>simp[intOf];omega
  ·obtain rfl:k=cs.length:=by omega
   have gJ:¬ ((cs.length:Nat):Int)<(cs.length:Int):=by omega
   have HT:=ae (HE.out.trans PX);clear HE;go_wp2_with fail;go_ret
   rw[HT.out];exact⟨rfl,HB.out⟩
theorem P3{w:World}{v:Value}{cs:List Cl}(hs:Sv w v (aI cs))(hf:∀ c∈cs,aU c)(fO:0<cs.length):Calls Tryz.prog 107 #[v,.func (.func 105) #[] #[]] w fun e w'=>e=.returned (de (eC cs[0] (cs.drop 1)))/\Below w.heap.size w w':=by
 have HS:=ae hs;have HF:=ae hf;have HR:Hid (∃ R,R=eC cs[0] (cs.drop 1)):=ae ⟨_,rfl⟩;obtain⟨R,hR⟩:=HR.out;have i6:=ae hR;rw[← hR];clear hR HR;obtain⟨a,cap,rfl,aX,bw⟩:=hs.form1;rw[aF]at *;obtain⟨b0,off0,rfl,dW,z0⟩:=hs.at1 (cK fO);have hcm':cap<=9223372036854775807:=by unfold maxLen at bw;omega
 have M4:=ae (hf cs[0] (ZV fO));have hge1:¬ (cs.length:Int)<1:=by omega
 have hlt0:(0:Int)<(cs.length:Int):=by omega
 rw[jaC]at z0;clear hs hf bw;generalize oD:cs[0]=c0 at *;clear oD;go_enter Tryz.func107,Tryz.ntmps107
 go_wp2_with fail;clear z0;go_loopw [5,6] (fun s i wr=>∃(k:Nat) (m:Cl),1<=k/\k<=cs.length/\i=.int .i64 (k:Int)/\s=de m/\aU m/\R=eC m (cs.drop k)/\Below w.heap.size w wr) (fun _ i _=>cs.length-(intOf i).toNat)
 case atStart=>exact⟨1,c0,by omega,by omega,rfl,rfl,M4.out,i6.out,ZQ _ _⟩
 case round =>
  obtain⟨k,m,p9,hk,rfl,rfl,SV,lq,ay⟩:=hrel;have lw:=ae SV;have HE:=ae lq;have HB:=ae ay;clear SV lq ay i6;by_cases aB:k<cs.length
  ·obtain⟨b,off,he,hb,z⟩:=(HS.out.kept HB.out).at1 (cK aB)
   simp only[Option.some.injEq,Addr.mk.injEq,and_true]at he;obtain⟨rfl,rfl⟩:=he;have hlt':(k:Int)<(cs.length:Int):=by omega
   have Bx:=ae (HF.out cs[k] (ZV aB));have HT:=ae (HE.out.trans (La aB));generalize cs[k]=c at *;have HC:=ae (fun W=>kn Bx.out.val lw.out.val W);rw[show cv (c.1:Int) c.2.1 (am c.2.2) (m.1:Int) m.2.1 (am m.2.2)=cO c m from rfl]at HC;generalize cO c m=q at *;clear HE;go_wp2_with fail;refine(HC.out _).mono ?_;rintro e w2 ⟨rfl,aD⟩;have aN:=ae (ai HB.out aD);have z2:=(aD.cell (p:=⟨b0,off0+k,none⟩) hb).trans z;clear aD z;by_cases hq:0<q
   ·rw[if_pos hq]at HT
    go_wp2_with fail;go_roundw
    case rel=>exact⟨k+1,c,by omega,by omega,by go_num,rfl,Bx.out,HT.out,aN.out⟩
    case measure=>simp[intOf];omega
   ·rw[if_neg hq]at HT
    go_wp2_with fail;go_roundw
    case rel=>exact⟨k+1,m,by omega,by omega,by go_num,rfl,lw.out,HT.out,aN.out⟩
    case measure=>simp[intOf];omega
  ·obtain rfl:k=cs.length:=by omega
   have gJ:¬ ((cs.length:Nat):Int)<(cs.length:Int):=by omega
   have HT:=ae (HE.out.trans PY);clear HE;go_wp2_with fail;go_ret
   rw[HT.out];exact⟨rfl,HB.out⟩
end Go.Proofs.YtpljdjmpamjkhaaGreatDoor

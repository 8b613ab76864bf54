import Derived.Test.YtpljdjmpamjkhaaGreatDoorWak
import Derived.Lib.EndianMore
set_option linter.unusedVariables false
set_option linter.unusedSimpArgs false
set_option maxRecDepth 100000
set_option maxHeartbeats 8000000
namespace Go.Proofs.YtpljdjmpamjkhaaGreatDoor
open Go.RowKit Go.Lib
def b3V(b:B3):Value:=.agg #[.bool b.1,.bool b.2.1,.bool b.2.2]
def VR(a:B3)(x:Nat):Bool:=if x=0 then a.1 else if x=1 then a.2.1 else a.2.2
def setB(x:Nat)(a:B3):B3:=if x=0 then (true,a.2.1,a.2.2) else if x=1 then (a.1,true,a.2.2) else (a.1,a.2.1,true)
def Flg(W:World)(p:Nat)(o:B3):Prop:=W.heap[p]?=some (.cells #[.bool o.1,.bool o.2.1,.bool o.2.2] 123 (0,0))
theorem Flg.facts{W:World}{p:Nat}{o:B3}(h:Flg W p o):(W.cell? ⟨p,0,none⟩=some (.bool o.1)/\W.cell? ⟨p,1,none⟩=some (.bool o.2.1)/\W.cell? ⟨p,2,none⟩=some (.bool o.2.2))/\(W.frozen? ⟨p,0,none⟩=false/\W.frozen? ⟨p,1,none⟩=false/\W.frozen? ⟨p,2,none⟩=false)/\p<W.heap.size:=by
 unfold Flg at h;refine⟨⟨by rw[an h];rfl,by rw[an h];rfl,by rw[an h];rfl⟩,⟨by simp[World.frozen?,h],by simp[World.frozen?,h],by simp[World.frozen?,h]⟩,(Array.getElem?_eq_some_iff.1 h).1⟩
theorem Flg.set{W:World}{p:Nat}{o:B3}(h:Flg W p o)(x:Nat)(hx:x<=2):Flg (W.setCell ⟨p,x,none⟩ (.bool true)) p (setB x o):=by
 unfold Flg at *;rw[bY h];obtain rfl | rfl | rfl:x=0∨x=1∨x=2:=by omega
 all_goals rfl
theorem Flg.new(w:World)(o:B3):Flg (w.alloc (.cells #[.bool o.1,.bool o.2.1,.bool o.2.2] 123)) w.heap.size o:=by
 exact Zb w _
theorem Flg.kept{W W':World}{p:Nat}{o:B3}(h:Flg W p o)(hb:Below W.heap.size W W'):Flg W' p o:=by
 have hp:=h.facts.2.2;unfold Flg at *;rw[hb.block p hp];exact h
def celS(st:Stt):List Value:=[.int .i64 st.rows,.int .i64 st.nulls,.bool st.some,.bool st.high,.int .u8 (st.lo.1:Int),.int .i64 st.lo.2.1,.string (ai st.lo.2.2),.int .u8 (st.hi.1:Int),.int .i64 st.hi.2.1,.string (ai st.hi.2.2)]
def kU(st:Stt):Value:=.agg #[.int .i64 st.rows,.int .i64 st.nulls,.bool st.some,.bool st.high,.int .u8 (st.lo.1:Int),.int .i64 st.lo.2.1,.string (ai st.lo.2.2),.int .u8 (st.hi.1:Int),.int .i64 st.hi.2.1,.string (ai st.hi.2.2)]
def Stb(W:World)(q:Nat)(st:Stt):Prop:=W.heap[q]?=some (.cells #[.int .i64 st.rows,.int .i64 st.nulls,.bool st.some,.bool st.high,.int .u8 (st.lo.1:Int),.int .i64 st.lo.2.1,.string (ai st.lo.2.2),.int .u8 (st.hi.1:Int),.int .i64 st.hi.2.1,.string (ai st.hi.2.2)] 54 (0,0))
def DO(W:World)(b off:Nat)(st:Stt):Prop:=b<W.heap.size/\(W.cell? ⟨b,off,none⟩=some (.int .i64 st.rows)/\W.cell? ⟨b,off+1,none⟩=some (.int .i64 st.nulls)/\W.cell? ⟨b,off+2,none⟩=some (.bool st.some)/\W.cell? ⟨b,off+3,none⟩=some (.bool st.high))/\(W.cell? ⟨b,off+4,none⟩=some (.int .u8 (st.lo.1:Int))/\W.cell? ⟨b,off+5,none⟩=some (.int .i64 st.lo.2.1)/\W.cell? ⟨b,off+6,none⟩=some (.string (ai st.lo.2.2)))/\(W.cell? ⟨b,off+7,none⟩=some (.int .u8 (st.hi.1:Int))/\W.cell? ⟨b,off+8,none⟩=some (.int .i64 st.hi.2.1)/\W.cell? ⟨b,off+9,none⟩=some (.string (ai st.hi.2.2)))
theorem DO.kept{W W':World}{b off:Nat}{st:Stt}(h:DO W b off st)(hb:Below W.heap.size W W'):DO W' b off st:=by
 obtain⟨h0,⟨a1,a2,a3,a4⟩,⟨a5,a6,a7⟩,a8,a9,a10⟩:=h;have e:∀ o,W'.cell? ⟨b,o,none⟩=W.cell? ⟨b,o,none⟩:=fun o=>(fd hb).1 b o h0
 exact⟨Za h0 hb.size,⟨by rw[e];exact a1,by rw[e];exact a2,by rw[e];exact a3,by rw[e];exact a4⟩,⟨by rw[e];exact a5,by rw[e];exact a6,by rw[e];exact a7⟩,by rw[e];exact a8,by rw[e];exact a9,by rw[e];exact a10⟩
theorem Stb.at{W:World}{q:Nat}{st:Stt}(h:Stb W q st):DO W q 0 st:=by
 unfold Stb at h;exact⟨(Array.getElem?_eq_some_iff.1 h).1,⟨by rw[an h];rfl,by rw[an h];rfl,by rw[an h];rfl,by rw[an h];rfl⟩,⟨by rw[an h];rfl,by rw[an h];rfl,by rw[an h];rfl⟩,by rw[an h];rfl,by rw[an h];rfl,by rw[an h];rfl⟩
theorem Stb.new(w:World)(st:Stt):Stb (w.alloc (.cells #[.int .i64 st.rows,.int .i64 st.nulls,.bool st.some,.bool st.high,.int .u8 (st.lo.1:Int),.int .i64 st.lo.2.1,.string (ai st.lo.2.2),.int .u8 (st.hi.1:Int),.int .i64 st.hi.2.1,.string (ai st.hi.2.2)] 54)) w.heap.size st:=Zb w _
def Oks(st:Stt):Prop:=Okc st.lo/\Okc st.hi
theorem set3{B:Nat}{w W:World}(h:Below B w W){p:Nat}(hp:B<=p)(x y z:Value):Below B w (((W.setCell ⟨p,0,none⟩ x).setCell ⟨p,1,none⟩ y).setCell ⟨p,2,none⟩ z) :=
 ((h.setCell (p:=⟨p,0,none⟩) hp _).setCell (p:=⟨p,1,none⟩) hp _).setCell (p:=⟨p,2,none⟩) hp _
theorem VS(u:Bool)(c:Cl)(st:Stt):lw u 1 c st=(!(st.high && decide (ch (aQ c) (aQ st.lo)=0) && decide (ch (aQ c) (aQ st.hi)=0) && qA (aQ c)),u,decide (0<=ch (aQ c) (aQ st.lo)) && !(st.high && decide (0<ch (aQ c) (aQ st.hi)))):=rfl
theorem VT(u:Bool)(c:Cl)(st:Stt):lw u 2 c st=(!(st.high && decide (0<ch (aQ c) (aQ st.hi))),u,decide (0<ch (aQ c) (aQ st.lo))):=rfl
theorem VU(u:Bool)(c:Cl)(st:Stt):lw u 3 c st=(!(st.high && decide (0<=ch (aQ c) (aQ st.hi))),u,decide (0<=ch (aQ c) (aQ st.lo))):=rfl
theorem VV(u:Bool)(c:Cl)(st:Stt):lw u 4 c st=(true,u,true):=rfl
theorem VW(u:Bool)(op:Nat)(c:Cl)(st:Stt)(h:¬ (1<=op/\op<=4)):lw u op c st=(true,true,true):=by
 unfold lw;rw[Yx (by omega),Yx (by omega),Yx (by omega),Yx (by omega)]
def Nw(w X:World)(b off op f:Nat)(c:Cl)(kv:Value)(u:Bool)(st:Stt):Prop:=Below w.heap.size w X/\Flg X w.heap.size (false,u,false)/\Stb X (w.heap.size+1) st/\Flg X (w.heap.size+1+1) (false,false,false)/\fH X b off op f c kv
theorem Nw.kept{w X Y:World}{b off op f:Nat}{c:Cl}{kv:Value}{u:Bool}{st:Stt}(h:Nw w X b off op f c kv u st)(hb:Below X.heap.size X Y):Nw w Y b off op f c kv u st:=by
 obtain⟨h1,h2,h3,h4,h5⟩:=h;refine⟨ag h1 hb,h2.kept hb,?_,h4.kept hb,h5.kept hb⟩;unfold Stb at *;rw[hb.block _ ((Array.getElem?_eq_some_iff.1 h3).1)];exact h3
theorem Jm(a b:Cl):ch b a=- ch a b:=SI _ _ _ _ _ _
theorem DP(a b:Cl):ch a b=-1∨ch a b=0∨ch a b=1:=Nl _ _ _ _ _ _
def FY(P:Cl->Bool)(cs:List Cl)(z:Int):Prop:=(z=-1/\∀ j (h:j<cs.length),P cs[j]=false)∨(∃ k,∃(h:k<cs.length),z=(k:Int)/\P cs[k]=true/\∀ j (h:j<cs.length),j<k->P cs[j]=false)
theorem Aw{w:World}{v:Value}{cs:List Cl}(hs:Sv w v (aC cs))(hf:∀ c∈cs,aI c):Calls Tryz.prog 143 #[v,.func (.func 99) #[] #[]] w fun e w'=>(∃ z:Int,e=.returned (.int .i64 z)/\FY (fun c=>decide (c.1=0)) cs z)/\Below w.heap.size w w':=by
 have HS:=ae hs;have HF:=ae hf;obtain⟨a,cap,rfl,aV,bw⟩:=hs.form1;rw[ax]at *;have hcm':cap<=9223372036854775807:=by unfold maxLen at bw;omega
 clear hs hf bw;go_enter Tryz.func143,Tryz.ntmps143
 go_wp2_with fail;go_loopw [8] (fun i wr=>∃ k:Nat,k<=cs.length/\i=.int .i64 (k:Int)/\(∀ j (h:j<cs.length),j<k->(fun c:Cl=>decide (c.1=0)) cs[j]=false)/\Below w.heap.size w wr) (fun i _=>cs.length-(intOf i).toNat)
 case atStart=>exact⟨0,by omega,rfl,fun j h hj=>by omega,Yz _ _⟩
 case round =>
  obtain⟨k,hk,rfl,cz,ao⟩:=hrel;have HA:=ae cz;have HB:=ae ao;clear cz ao;by_cases ar:k<cs.length
  ·obtain⟨b,off,rfl,hb,z⟩:=(HS.o.kept HB.o).at1 (cd ar)
   have hlt':(k:Int)<(cs.length:Int):=(by omega);have HC:=ae (ue (HF.o cs[k] (YF ar)));have HP:jaH ((fun c:Cl=>decide (c.1=0)) cs[k]=(fun c:Cl=>decide (c.1=0)) cs[k]):=ae rfl;obtain⟨pv,WS⟩:∃ pv,pv=(fun c:Cl=>decide (c.1=0)) cs[k]:=⟨_,rfl⟩;have Rr:=ae WS;rw[show (decide (cs[k].1=0))=pv from WS.symm]at HC;clear WS HP;generalize ek:cs[k]=c at *;have oo:=ae ek;clear ek;go_wp2_with fail;refine(HC.o _).mono ?_;rintro e w2 ⟨rfl,ay⟩;have aK:=ae (ag HB.o ay);clear ay;cases pv
   ·go_wp2_with fail
    go_roundw
    case rel=>exact⟨k+1,by omega,by go_num,fun j h hj=>by
     by_cases hjk:j=k
     ·subst hjk
      rw[oo.o];exact Rr.o.symm
     ·exact HA.o j h (by omega),aK.o⟩
    case measure=>simp[intOf];omega
   ·go_wp2_with fail
    go_ret
    exact⟨⟨(k:Int),rfl,Or.inr ⟨k,ar,rfl,by rw[oo.o];exact Rr.o.symm,HA.o⟩⟩,aK.o⟩
  ·obtain rfl:k=cs.length:=by omega
   have eO:¬ ((cs.length:Nat):Int)<(cs.length:Int):=(by omega);go_wp2_with fail;go_ret
   exact⟨⟨-1,rfl,Or.inl ⟨rfl,fun j h=>HA.o j h h⟩⟩,HB.o⟩
theorem ug{w:World}{v:Value}{cs:List Cl}(hs:Sv w v (aC cs))(hf:∀ c∈cs,aI c):Calls Tryz.prog 143 #[v,.func (.func 102) #[] #[]] w fun e w'=>(∃ z:Int,e=.returned (.int .i64 z)/\FY (fun c=>!cV (lb (ai c.2.2))) cs z)/\Below w.heap.size w w':=by
 have HS:=ae hs;have HF:=ae hf;obtain⟨a,cap,rfl,aV,bw⟩:=hs.form1;rw[ax]at *;have hcm':cap<=9223372036854775807:=by unfold maxLen at bw;omega
 clear hs hf bw;go_enter Tryz.func143,Tryz.ntmps143
 go_wp2_with fail;go_loopw [8] (fun i wr=>∃ k:Nat,k<=cs.length/\i=.int .i64 (k:Int)/\(∀ j (h:j<cs.length),j<k->(fun c:Cl=>!cV (lb (ai c.2.2))) cs[j]=false)/\Below w.heap.size w wr) (fun i _=>cs.length-(intOf i).toNat)
 case atStart=>exact⟨0,by omega,rfl,fun j h hj=>by omega,Yz _ _⟩
 case round =>
  obtain⟨k,hk,rfl,cz,ao⟩:=hrel;have HA:=ae cz;have HB:=ae ao;clear cz ao;by_cases ar:k<cs.length
  ·obtain⟨b,off,rfl,hb,z⟩:=(HS.o.kept HB.o).at1 (cd ar)
   have hlt':(k:Int)<(cs.length:Int):=(by omega);have HC:=ae (Av (HF.o cs[k] (YF ar)));have HP:jaH ((fun c:Cl=>!cV (lb (ai c.2.2))) cs[k]=(fun c:Cl=>!cV (lb (ai c.2.2))) cs[k]):=ae rfl;obtain⟨pv,WS⟩:∃ pv,pv=(fun c:Cl=>!cV (lb (ai c.2.2))) cs[k]:=⟨_,rfl⟩;have Rr:=ae WS;rw[show (!cV (lb (ai cs[k].2.2)))=pv from WS.symm]at HC;clear WS HP;generalize ek:cs[k]=c at *;have oo:=ae ek;clear ek;go_wp2_with fail;refine(HC.o _).mono ?_;rintro e w2 ⟨rfl,ay⟩;have aK:=ae (ag HB.o ay);clear ay;cases pv
   ·go_wp2_with fail
    go_roundw
    case rel=>exact⟨k+1,by omega,by go_num,fun j h hj=>by
     by_cases hjk:j=k
     ·subst hjk
      rw[oo.o];exact Rr.o.symm
     ·exact HA.o j h (by omega),aK.o⟩
    case measure=>simp[intOf];omega
   ·go_wp2_with fail
    go_ret
    exact⟨⟨(k:Int),rfl,Or.inr ⟨k,ar,rfl,by rw[oo.o];exact Rr.o.symm,HA.o⟩⟩,aK.o⟩
  ·obtain rfl:k=cs.length:=by omega
   have eO:¬ ((cs.length:Nat):Int)<(cs.length:Int):=(by omega);go_wp2_with fail;go_ret
   exact⟨⟨-1,rfl,Or.inl ⟨rfl,fun j h=>HA.o j h h⟩⟩,HB.o⟩
theorem qD{w:World}{ops:Array Oper}{rest:List Oper}{o:Oper}{a:Act}{Q:Exit->Act->World->Prop}(dO:o.guard=none)(s x:Operand)
  (ho:o.op=.call { callee:=.builtin .append,args:=#[s,x],argTypes:=#[79,79] })
  (base:Nat) (v:Value) (ad:Addr) (cap:Nat) (l0 l:List Cl) (hs:a.eval s=v) (aw:OwnV w base v l0) (hx:a.eval x=.slice (some ad) l.length cap) (et:Sv w (.slice (some ad) l.length cap) (aC l))
  (hbytes:l0.length+l.length<=100000) (aD:base<=w.heap.size)
  (h:∀ v' w',OwnV w' base v' (l0++l)->Below base w w'->wpList Tryz.prog ops Q rest (a.put o.dst v') w') :
  wpList Tryz.prog ops Q (o::rest) a w:=by
 obtain⟨i0,hi,bN,hz1',bh⟩:=YW qi;unfold OwnV at *;obtain⟨ad',cap',hse,h1,h2,h3,h4⟩:=et;simp only[Value.slice.injEq]at hse;obtain⟨rfl,_,rfl⟩:=hse;rw[ax]at *;refine ZI (w:=w) dO s x 79 ho base 78 i0 .nilIface 1 16 Tryz.underlying79 hi bN hz1' bh rfl (by decide) v l0.length (aC l0) hs aw ad l.length cap (aC l) hx (by rw[ax];omega) ?_ (mW l) (by unfold maxLen;omega) (by omega) aD ?_
 ·intro j u hu
  have hj:j<l.length:=by
   have:=(List.getElem?_eq_some_iff.1 hu).1;rwa[ax]at this
  obtain⟨b,off,h5,_,h6⟩:=h4 (by omega);cases h5
  rw[kq];exact h6 j u hu
 ·intro v' w' o1 g1 _ _
  refine h v' w' ?_ ((Yz base w).grown g1 aD (fun k hk=>(aw.lt k hk).1));rw[iI,YC];exact o1
theorem nO{w:World}{v:Value}{cs:List Cl}(hs:Sv w v (aC cs))(hl:cs.length<=1000):Calls Tryz.prog 57 #[v] w fun e w'=>(∃ v',e=.returned v'/\OwnV w' w.heap.size v' cs)/\Below w.heap.size w w':=by
 have HS:=ae hs;obtain⟨ad,cap,rfl,h1,h2,h3,h4⟩:=hs;rw[ax]at *;cases ad with
 | none =>
  have hc:=h3 rfl;subst hc;have sQ:cs=[]:=YU (by omega);subst sQ;have hq:(binOp .eql 79 (.slice none 0 0) (.slice none 0 0)).run Tryz.prog w=.ok (.bool true) w:=jam w 79 78 none 0 0 0 0 Tryz.underlying79;go_enter Tryz.func57,Tryz.ntmps57
  go_wp2_with fail;go_ret
  exact⟨⟨_,rfl,OwnV.nil _ _⟩,Yz _ _⟩
 | some ad =>
  have HN:jaH (OwnV (w.alloc (.cells #[] 78)) w.heap.size (.slice (some ⟨w.heap.size,0,none⟩) 0 0) []):=ae (jaf (e:=78) (size:=1) w #[] 0 (base:=w.heap.size) (YA _) (by unfold maxLen;omega) rfl);have eP:=ae (HS.o.kept (aj w (.cells #[] 78)));clear h3 h4;have hq:(binOp .eql 79 (.slice (some ad) cs.length cap) (.slice none 0 0)).run Tryz.prog w=.ok (.bool false) w:=jam w 79 78 (some ad) cs.length cap 0 0 Tryz.underlying79;go_enter Tryz.func57,Tryz.ntmps57
  go_wp2_with (first | (at_builtin;refine qD rfl _ _ rfl w.heap.size _ ad cap [] cs rfl ?q1 rfl ?q2 ?c1 ?c2 ?_))
  case q1=>exact HN.o
  case q2=>exact eP.o
  case c1=>simp;omega
  case c2=>rw[YB];omega
  intro v3 w3 o3 aO;have dx:=ae o3;have bT:=ae ((aj w (.cells #[] 78)).trans aO);clear o3 aO;go_wp2_with fail;go_ret
  exact⟨⟨_,rfl,dx.o⟩,bT.o⟩
def aP(cs:List Cl):List Cl:=cs.filter fun c=>!decide (c.1=0)
theorem Ax{cs:List Cl}(h:∀ j (h:j<cs.length),decide (cs[j].1=0)=false):aP cs=cs:=by
 unfold aP;rw[List.filter_eq_self];intro c hc;obtain⟨j,hj,rfl⟩:=List.mem_iff_getElem.1 hc;rw[h j hj];rfl
theorem qE{cs:List Cl}{j:Nat}(h:j<cs.length):aP (cs.take (j+1))=aP (cs.take j)++(if cs[j].1=0 then [] else [cs[j]]):=by
 unfold aP;rw[List.take_add_one,List.getElem?_eq_getElem h,jaq];congr 1
 by_cases hc:cs[j].1=0
 ·simp[hc]
 ·simp[hc]
def Del(cs:List Cl)(xs:List Value)(i j:Nat):Prop:=xs.length=cs.length/\i<j/\j<=cs.length/\xs.take i=aC (aP (cs.take j))/\xs.drop j=aC (cs.drop j)
theorem Del.skip{cs:List Cl}{xs:List Value}{i j:Nat}(h:Del cs xs i j)(hj:j<cs.length)(hn:cs[j].1=0):Del cs xs i (j+1):=by
 obtain⟨h1,h2,h3,h4,h5⟩:=h;refine⟨h1,by omega,by omega,?_,?_⟩
 ·rw[qE hj,Yy hn,YZ]
  exact h4
 ·rw[← jan,h5]
  unfold aC;rw[← List.map_drop,jan]
theorem Del.keep{cs:List Cl}{xs:List Value}{i j:Nat}(h:Del cs xs i j)(hj:j<cs.length)(hn:¬ cs[j].1=0):Del cs (xs.set i (cp cs[j])) (i+1) (j+1):=by
 obtain⟨h1,h2,h3,h4,h5⟩:=h;refine⟨by rw[jak];exact h1,by omega,by omega,?_,?_⟩
 ·rw[qE hj,Yx hn,iI,← h4,List.take_add_one,List.take_set_of_le (by omega),List.getElem?_set_self (by omega)]
  rfl
 ·rw[List.drop_set_of_lt (by omega),← jan,h5]
  unfold aC;rw[← List.map_drop,jan]
theorem Del.get{cs:List Cl}{xs:List Value}{i j:Nat}(h:Del cs xs i j)(hj:j<cs.length):xs[j]?=some (cp cs[j]):=by
 obtain⟨h1,h2,h3,h4,h5⟩:=h;have:=YE (fun l=>l[0]?) h5;simp only[List.getElem?_drop,ZL]at this;rw[this];unfold aC;rw[List.getElem?_map,List.getElem?_drop,ZL,List.getElem?_eq_getElem hj];rfl
theorem Del.start{cs:List Cl}{k:Nat}(hk:k<cs.length)(hn:cs[k].1=0)(cz:∀ j (h:j<cs.length),j<k->decide (cs[j].1=0)=false):Del cs (aC cs) k (k+1):=by
 refine⟨ax _,by omega,by omega,?_,?_⟩
 ·rw[qE hk,Yy hn,YZ,Ax (cs:=cs.take k)]
  ·unfold aC
   rw[jah]
  ·intro j hj
   rw[List.getElem_take];exact cz j (by rw[YH]at hj;omega) (by rw[YH]at hj;omega)
 ·unfold aC
  rw[List.map_drop]
theorem Del.len{cs:List Cl}{xs:List Value}{i j:Nat}(h:Del cs xs i j):(aP (cs.take j)).length=i:=by
 obtain⟨h1,h2,h3,h4,h5⟩:=h;have:=YE List.length h4;rw[ax,YH]at this;omega
theorem uh{w:World}{B:Nat}{v:Value}{cs:List Cl}(ho:OwnV w B v cs)(hf:∀ c∈cs,aI c)(hBw:B<=w.heap.size):Calls Tryz.prog 98 #[v,.func (.func 99) #[] #[]] w fun e w'=>(∃ v',e=.returned v'/\Sv w' v' (aC (aP cs)))/\Below B w w':=by
 have HO:=ae ho;have HF:=ae hf;obtain⟨a,cap,rfl,aV,bw⟩:=aM ho;have hcm':cap<=9223372036854775807:=by unfold maxLen at bw;omega
 have HI:=ae (Aw ho.sv hf);have XY:=ae bw;clear ho hf bw;go_enter Tryz.func98,Tryz.ntmps98
 go_wp2_with fail;refine HI.o.mono ?_;rintro e w1 ⟨⟨z,rfl,hz⟩,aA⟩;have aN:=ae (aA.mono hBw);have fK:=ae (HO.o.kept aA);clear aA HI HO;rcases hz with ⟨rfl,cz⟩ | ⟨k0,uK,rfl,hp,cz⟩
 ·have HN:=ae (Ax cz)
  clear cz;go_wp2_with fail;go_ret
  refine⟨⟨_,rfl,?_⟩,aN.o⟩;rw[HN.o];exact fK.o.sv
 ·have HDS:=ae (Del.start uK (by simpa using hp) cz)
  obtain⟨g,cap',eO,ew,gx,_⟩:=(wi fK.o).2 (by omega);simp only[Value.slice.injEq]at eO;obtain⟨rfl,_,rfl⟩:=eO;have mP:((k0:Int)==-1)=false:=YN.2 (by omega);clear hp cz;go_wp2_with fail;go_loopw [5,6] (fun a b wr=>∃(i j:Nat) (xs:List Value),a=.int .i64 (i:Int)/\b=.int .i64 (j:Int)/\Del cs xs i j/\wr.ownsRow B 78 1 (.slice (some ⟨g,0,none⟩) cs.length cap) cs.length xs/\Below B w wr) (fun _ b _=>cs.length-(intOf b).toNat)
  case atStart=>exact⟨k0,k0+1,_,rfl,by go_num,HDS.o,fK.o,aN.o⟩
  case round =>
   obtain⟨i,j,xs,rfl,rfl,sT,how,ao⟩:=hrel;have HD:=ae sT;have HO:=ae how;have HB:=ae ao;have KF:=sT.2.1;have hjn:=sT.2.2.1;by_cases ar:j<cs.length
   ·have hlt':(j:Int)<(cs.length:Int):=by omega
    have cj:=(how.cellAt j (by omega)).trans (sT.get ar);have fi:=how.frozenAt i
    obtain⟨ci,hci⟩:∃ u,wr.cell? ⟨g,i,none⟩=some u:=by
     refine⟨xs[i]'(by have:=sT.1;omega),?_⟩;rw[how.cellAt i (by omega),List.getElem?_eq_getElem]
    have HC:=ae (ue (HF.o cs[j] (YF ar)));have HSK:=ae (sT.skip ar);have HKP:=ae (sT.keep ar);clear sT how ao;generalize ek:cs[j]=c at *;clear ek;have qd:(i:Int)<(cs.length:Int):=(by omega);go_wp2_with fail;refine(HC.o _).mono ?_;rintro e w3 ⟨rfl,aO⟩;have bT:=ae (HB.o.trans (aO.mono (YG hBw HB.o.size)));have dx:=ae (bP HO.o aO);have fi3:=dx.o.frozenAt i;have ci3:=(aO.cell (p:=⟨g,i,none⟩) (show g<wr.heap.size by have:=HO.o.lt g rfl;omega)).trans hci;clear aO fi cj hci;by_cases rZ:c.1=0
    ·rw[show decide (c.1=0)=true from YT rZ]
     have sU:=ae (HSK.o rZ);go_wp2_with fail;go_roundw
     case rel=>exact⟨i,j+1,xs,rfl,by go_num,sU.o,dx.o,bT.o⟩
     case measure=>simp[intOf];omega
    ·rw[show decide (c.1=0)=false from YO rZ]
     have sU:=ae (HKP.o rZ);obtain⟨ty,u,Wx⟩:=iP c rZ;rw[Wx]at sU ⊢;clear Wx HC HKP HSK;go_wp2_with fail;go_roundw
     case rel=>exact⟨i+1,j+1,_,by go_num,by go_num,sU.o,(dx.o.stored i _).1,bT.o.setCell (p:=⟨g,i,none⟩) gx _⟩
     case measure=>simp[intOf];omega
   ·obtain rfl:j=cs.length:=by omega
    have eO:¬ ((cs.length:Nat):Int)<(cs.length:Int):=(by omega);have Gu:jaH ((aP cs).length=i):=ae (by have:=sT.len;rwa[YK]at this);have qc:jaH (xs.take i=aC (aP cs)):=ae (by have:=sT.2.2.2.1;rwa[YK]at this);have qd:(i:Int)<=(cs.length:Int):=(by omega);have hin2:i<=cs.length:=(by omega);have UG:=sT.1;have hz61:∀ w,(zeroValue 78).run Tryz.prog w=.ok .nilIface w:=fun w=>by kernel_rfl
    have fT:∀ ty,(Builtin.clear_ #[79] ty #[.slice (some ⟨g,i,none⟩) (cs.length-i) (cap-i)]).run Tryz.prog wr=.ok (.tuple #[]) (wr.setCells g i (List.replicate (cs.length-i) .nilIface)):=fun ty=>run_clear_slice wr 79 78 ty .nilIface Tryz.underlying79 hz61 rfl rfl g i (cs.length-i) (cap-i) (by omega) (fun t ht=>by
     rw[how.cellAt (i+t) (by omega),List.getElem?_eq_getElem (by omega)];rfl) (fun t ht=>how.frozenAt (i+t))
    clear hz61
    have Cc:jaH (Sv (wr.setCells g i (List.replicate (cs.length-i) .nilIface)) (.slice (some ⟨g,0,none⟩) i cap) (aC (aP cs))):=ae ⟨some ⟨g,0,none⟩,cap,by rw[ax,Gu.o],by rw[ax,Gu.o];omega,XY.o,fun h=>by simp at h,fun h0=>⟨g,0,rfl,by
     have:=(below_setCells_w (B:=0) (g:=g) (Zq _) (List.replicate (cs.length-i) .nilIface) i wr).size;have:=how.lt g rfl;omega,fun t x hx=>by
     have ht:t<i:=by
      have:=(List.getElem?_eq_some_iff.1 hx).1;rw[ax,Gu.o]at this;exact this
     rw[YY,World.cell?_setCells_out g _ i wr ⟨g,t,none⟩ (fun _ _=>Or.inl ht),how.cellAt t (by omega)];rw[← qc.o,List.getElem?_take_of_lt ht]at hx;exact hx⟩⟩
    have Cg:=ae (HB.o.trans (below_setCells_w gx (List.replicate (cs.length-i) .nilIface) i wr));clear sT how ao UG;go_wp2_with fail;go_ret
    exact⟨⟨_,rfl,Cc.o⟩,Cg.o⟩
theorem FY.any{P:Cl->Bool}{cs:List Cl}{z:Int}(h:FY P cs z):decide (z>=0)=cs.any P:=by
 rcases h with ⟨rfl,h⟩ | ⟨k,hk,rfl,h,_⟩
 ·rw[show decide ((-1:Int)>=0)=false from rfl,eq_comm,List.any_eq_false]
  intro c hc;obtain⟨j,hj,rfl⟩:=List.mem_iff_getElem.1 hc;simp[h j hj]
 ·rw[show decide ((k:Int)>=0)=true from YT (by omega),eq_comm,List.any_eq_true]
  exact⟨cs[k],YF hk,h⟩
def dT(c:Cl):Bool:=cV (lb (ai c.2.2))
theorem ui{w:World}{v:Value}{cs:List Cl}(hs:Sv w v (aC cs))(hf:∀ c∈cs,aI c):Calls Tryz.prog 101 #[v,.func (.func 102) #[] #[]] w fun e w'=>e=.returned (.bool (!cs.all dT))/\Below w.heap.size w w':=by
 have HC:=ae (ug hs hf);obtain⟨a,cap,rfl,aV,bw⟩:=hs.form1;clear hs hf;go_enter Tryz.func101,Tryz.ntmps101
 go_wp2_with fail;refine HC.o.mono ?_;rintro e w1 ⟨⟨z,rfl,hz⟩,hb⟩
 have HZ:jaH (decide (z>=0)=!cs.all dT):=ae (by
  rw[hz.any,List.not_all_eq_any_not];rfl)
 clear hz;go_wp2_with fail;go_ret
 rw[← HZ.o];exact⟨rfl,hb⟩
def eX(m:Cl):List Cl->Cl
 | []=>m
 | x::r=>eX (if ch x m<0 then x else m) r
def dF(m:Cl):List Cl->Cl
 | []=>m
 | x::r=>dF (if 0<ch x m then x else m) r
theorem Jn{m:Cl}{cs:List Cl}{i:Nat}(h:i<cs.length):eX m (cs.drop i)=eX (if ch cs[i] m<0 then cs[i] else m) (cs.drop (i+1)):=by
 rw[Zz h];rfl
theorem Jo{m:Cl}{cs:List Cl}{i:Nat}(h:i<cs.length):dF m (cs.drop i)=dF (if 0<ch cs[i] m then cs[i] else m) (cs.drop (i+1)):=by
 rw[Zz h];rfl
theorem Nx{m:Cl}{cs:List Cl}:eX m (cs.drop cs.length)=m:=by rw[ZO];rfl
theorem Ny{m:Cl}{cs:List Cl}:dF m (cs.drop cs.length)=m:=by rw[ZO];rfl
theorem kE{P:Cl->Prop}:∀{cs:List Cl} {m:Cl},P m->(∀ c∈cs,P c)->P (eX m cs)
 | [],m,h,_=>h
 | x::r,m,h,hr=>by
  unfold eX;refine kE ?_ fun c hc=>hr c (by simp[hc])
  split
  ·exact hr x (by simp)
  ·exact h
theorem lO{P:Cl->Prop}:∀{cs:List Cl} {m:Cl},P m->(∀ c∈cs,P c)->P (dF m cs)
 | [],m,h,_=>h
 | x::r,m,h,hr=>by
  unfold dF;refine lO ?_ fun c hc=>hr c (by simp[hc])
  split
  ·exact hr x (by simp)
  ·exact h
theorem Nz{w:World}{v:Value}{cs:List Cl}(hs:Sv w v (aC cs))(hf:∀ c∈cs,aI c)(fb:0<cs.length):Calls Tryz.prog 104 #[v,.func (.func 105) #[] #[]] w fun e w'=>e=.returned (cp (eX cs[0] (cs.drop 1)))/\Below w.heap.size w w':=by
 have HS:=ae hs;have HF:=ae hf;have HR:jaH (∃ R,R=eX cs[0] (cs.drop 1)):=ae ⟨_,rfl⟩;obtain⟨R,hR⟩:=HR.o;have jF:=ae hR;rw[← hR];clear hR HR;obtain⟨a,cap,rfl,aV,bw⟩:=hs.form1;rw[ax]at *;obtain⟨b0,off0,rfl,cO,z0⟩:=hs.at1 (cd fb);have hcm':cap<=9223372036854775807:=by unfold maxLen at bw;omega
 have Rt:=ae (hf cs[0] (YF fb));have hge1:¬ (cs.length:Int)<1:=by omega
 have hlt0:(0:Int)<(cs.length:Int):=by omega
 rw[ZL]at z0;clear hs hf bw;generalize rZ:cs[0]=c0 at *;clear rZ;go_enter Tryz.func104,Tryz.ntmps104
 go_wp2_with fail;clear z0;go_loopw [5,6] (fun s i wr=>∃(k:Nat) (m:Cl),1<=k/\k<=cs.length/\i=.int .i64 (k:Int)/\s=cp m/\aI m/\R=eX m (cs.drop k)/\Below w.heap.size w wr) (fun _ i _=>cs.length-(intOf i).toNat)
 case atStart=>exact⟨1,c0,by omega,by omega,rfl,rfl,Rt.o,jF.o,Yz _ _⟩
 case round =>
  obtain⟨k,m,sP,hk,rfl,rfl,Ru,kJ,ao⟩:=hrel;have km:=ae Ru;have HE:=ae kJ;have HB:=ae ao;clear Ru kJ ao jF;by_cases ar:k<cs.length
  ·obtain⟨b,off,he,hb,z⟩:=(HS.o.kept HB.o).at1 (cd ar)
   simp only[Option.some.injEq,Addr.mk.injEq,and_true]at he;obtain⟨rfl,rfl⟩:=he;have hlt':(k:Int)<(cs.length:Int):=(by omega);have Ll:=ae (HF.o cs[k] (YF ar));have HT:=ae (HE.o.trans (Jn ar));generalize cs[k]=c at *;have HC:=ae (fun W=>jr Ll.o.val km.o.val W);rw[show cv (c.1:Int) c.2.1 (ai c.2.2) (m.1:Int) m.2.1 (ai m.2.2)=ch c m from rfl]at HC;generalize ch c m=q at *;clear HE;go_wp2_with fail;refine(HC.o _).mono ?_;rintro e w2 ⟨rfl,ay⟩;have aK:=ae (ag HB.o ay);have z2:=(ay.cell (p:=⟨b0,off0+k,none⟩) hb).trans z;clear ay z;by_cases hq:q<0
   ·rw[Yy hq]at HT
    go_wp2_with fail;go_roundw
    case rel=>exact⟨k+1,c,by omega,by omega,by go_num,rfl,Ll.o,HT.o,aK.o⟩
    case measure=>simp[intOf];omega
   ·rw[Yx hq]at HT
    go_wp2_with fail;go_roundw
    case rel=>exact⟨k+1,m,by omega,by omega,by go_num,rfl,km.o,HT.o,aK.o⟩
    case measure=>simp[intOf];omega
  ·obtain rfl:k=cs.length:=by omega
   have eO:¬ ((cs.length:Nat):Int)<(cs.length:Int):=(by omega);have HT:=ae (HE.o.trans Nx);clear HE;go_wp2_with fail;go_ret
   rw[HT.o];exact⟨rfl,HB.o⟩
theorem NA{w:World}{v:Value}{cs:List Cl}(hs:Sv w v (aC cs))(hf:∀ c∈cs,aI c)(fb:0<cs.length):Calls Tryz.prog 107 #[v,.func (.func 105) #[] #[]] w fun e w'=>e=.returned (cp (dF cs[0] (cs.drop 1)))/\Below w.heap.size w w':=by
 have HS:=ae hs;have HF:=ae hf;have HR:jaH (∃ R,R=dF cs[0] (cs.drop 1)):=ae ⟨_,rfl⟩;obtain⟨R,hR⟩:=HR.o;have jF:=ae hR;rw[← hR];clear hR HR;obtain⟨a,cap,rfl,aV,bw⟩:=hs.form1;rw[ax]at *;obtain⟨b0,off0,rfl,cO,z0⟩:=hs.at1 (cd fb);have hcm':cap<=9223372036854775807:=by unfold maxLen at bw;omega
 have Rt:=ae (hf cs[0] (YF fb));have hge1:¬ (cs.length:Int)<1:=by omega
 have hlt0:(0:Int)<(cs.length:Int):=by omega
 rw[ZL]at z0;clear hs hf bw;generalize rZ:cs[0]=c0 at *;clear rZ;go_enter Tryz.func107,Tryz.ntmps107
 go_wp2_with fail;clear z0;go_loopw [5,6] (fun s i wr=>∃(k:Nat) (m:Cl),1<=k/\k<=cs.length/\i=.int .i64 (k:Int)/\s=cp m/\aI m/\R=dF m (cs.drop k)/\Below w.heap.size w wr) (fun _ i _=>cs.length-(intOf i).toNat)
 case atStart=>exact⟨1,c0,by omega,by omega,rfl,rfl,Rt.o,jF.o,Yz _ _⟩
 case round =>
  obtain⟨k,m,sP,hk,rfl,rfl,Ru,kJ,ao⟩:=hrel;have km:=ae Ru;have HE:=ae kJ;have HB:=ae ao;clear Ru kJ ao jF;by_cases ar:k<cs.length
  ·obtain⟨b,off,he,hb,z⟩:=(HS.o.kept HB.o).at1 (cd ar)
   simp only[Option.some.injEq,Addr.mk.injEq,and_true]at he;obtain⟨rfl,rfl⟩:=he;have hlt':(k:Int)<(cs.length:Int):=(by omega);have Ll:=ae (HF.o cs[k] (YF ar));have HT:=ae (HE.o.trans (Jo ar));generalize cs[k]=c at *;have HC:=ae (fun W=>jr Ll.o.val km.o.val W);rw[show cv (c.1:Int) c.2.1 (ai c.2.2) (m.1:Int) m.2.1 (ai m.2.2)=ch c m from rfl]at HC;generalize ch c m=q at *;clear HE;go_wp2_with fail;refine(HC.o _).mono ?_;rintro e w2 ⟨rfl,ay⟩;have aK:=ae (ag HB.o ay);have z2:=(ay.cell (p:=⟨b0,off0+k,none⟩) hb).trans z;clear ay z;by_cases hq:0<q
   ·rw[Yy hq]at HT
    go_wp2_with fail;go_roundw
    case rel=>exact⟨k+1,c,by omega,by omega,by go_num,rfl,Ll.o,HT.o,aK.o⟩
    case measure=>simp[intOf];omega
   ·rw[Yx hq]at HT
    go_wp2_with fail;go_roundw
    case rel=>exact⟨k+1,m,by omega,by omega,by go_num,rfl,km.o,HT.o,aK.o⟩
    case measure=>simp[intOf];omega
  ·obtain rfl:k=cs.length:=by omega
   have eO:¬ ((cs.length:Nat):Int)<(cs.length:Int):=(by omega);have HT:=ae (HE.o.trans Ny);clear HE;go_wp2_with fail;go_ret
   rw[HT.o];exact⟨rfl,HB.o⟩
def nb(l:List UInt8):List Nat:=l.map UInt8.toNat
theorem Jp(l:List UInt8):ai (nb l)=⟨l.toArray⟩:=by
 unfold ai nb;congr 1
 rw[Zk];have:(Nat.toUInt8 ∘ UInt8.toNat)=id:=by funext x;simp
 rw[this,ZE]
theorem lb_nb(l:List UInt8):lb (ai (nb l))=l:=by rw[Jp];rfl
theorem FZ{t:ByteArray}{l:List UInt8}(h:lb t=l):t=ai (nb l):=Dh (by rw[lb_nb,h])
theorem Ux(l:List UInt8):Bs (nb l):=fun x hx=>by
 unfold nb at hx;obtain⟨y,_,rfl⟩:=YS.1 hx;exact UInt8.toNat_lt y
def lP(x:Cl)(cl:Bool):Cl:=if x.1=3/\cl=false then (3,0,[]) else (x.1,x.2.1,nb (bC (lb (ai x.2.2)) 4))
def fo(x:Cl)(cl:Bool):Cl×Bool:=if x.1=3 then (match fG (lb (ai x.2.2)) 4 with
 | none=>(nul,false)
 | some a=>if cl=true then ((3,0,nb a),true) else (nul,false)) else (x,true)
def Ceb(W:World)(p:Nat)(x y z:Value):Prop:=W.heap[p]?=some (.cells #[x,y,z] 52 (0,0))
theorem Ceb.facts{W:World}{p:Nat}{x y z:Value}(h:Ceb W p x y z):(W.cell? ⟨p,0,none⟩=some x/\W.cell? ⟨p,1,none⟩=some y/\W.cell? ⟨p,2,none⟩=some z)/\(W.frozen? ⟨p,0,none⟩=false/\W.frozen? ⟨p,1,none⟩=false/\W.frozen? ⟨p,2,none⟩=false)/\p<W.heap.size:=by
 unfold Ceb at h;refine⟨⟨by rw[an h];rfl,by rw[an h];rfl,by rw[an h];rfl⟩,⟨by simp[World.frozen?,h],by simp[World.frozen?,h],by simp[World.frozen?,h]⟩,(Array.getElem?_eq_some_iff.1 h).1⟩
theorem Ceb.kept{W W':World}{p:Nat}{x y z:Value}(h:Ceb W p x y z)(hb:Below W.heap.size W W'):Ceb W' p x y z:=by
 have hp:=h.facts.2.2;unfold Ceb at *;rw[hb.block p hp];exact h
theorem Ceb.new(w:World)(x y z:Value):Ceb (w.alloc (.cells #[x,y,z] 52)) w.heap.size x y z:=Zb w _
theorem yp{x:Cl}(hf:aI x)(cl:Bool)(w:World):Calls Tryz.prog 103 #[cp x,.bool cl] w fun e w'=>e=.returned (.agg #[.int .u8 ((lP x cl).1:Int),.int .i64 (lP x cl).2.1,.string (ai (lP x cl).2.2)])/\Below w.heap.size w w':=by
 have HF:=ae hf;have hr:=Ceb.new w (.int .u8 0) (.int .i64 0) (.string ⟨#[]⟩);have cO:=aj w (.cells #[.int .u8 0,.int .i64 0,.string ⟨#[]⟩] 52);have HD:jaH (lP x cl=if x.1=3/\cl=false then (3,0,[]) else (x.1,x.2.1,nb (bC (lb (ai x.2.2)) 4))):=ae rfl;generalize lP x cl=R at *;have HR:=ae hr;have bV:=ae cO;have HZ:jaH (w.heap.size<(w.alloc (.cells #[.int .u8 0,.int .i64 0,.string ⟨#[]⟩] 52)).heap.size):=ae hr.facts.2.2;clear hf hr cO;go_enter Tryz.func103,Tryz.ntmps103
 go_wp2_with fail;refine(kr HF.o.val _).mono ?_;rintro e w1 ⟨rfl,aA⟩;have aN:=ae (ag bV.o aA);have qf:=ae (HR.o.kept aA);have cG:w.heap.size<w1.heap.size:=Za HZ.o aA.size;clear aA HR;have xt:=Ceb.new w1 (.int .u8 (x.1:Int)) (.int .i64 x.2.1) (.string (ai x.2.2));have ay:=aj w1 (.cells #[.int .u8 (x.1:Int),.int .i64 x.2.1,.string (ai x.2.2)] 52);have jI:=ae xt;have jF:=ae (qf.o.kept ay);have aK:=ae (ag aN.o ay);obtain⟨⟨d0,d1,d2⟩,⟨f0,f1,f2⟩,_⟩:=xt.facts;obtain⟨⟨r0,r1,r2⟩,⟨s0,s1,s2⟩,_⟩:=jF.o.facts;have fb:¬ w1.heap.size=w.heap.size:=by omega
 have vR:¬ w.heap.size=w1.heap.size:=by omega
 clear xt ay qf;generalize hW:w1.alloc (.cells #[.int .u8 (x.1:Int),.int .i64 x.2.1,.string (ai x.2.2)] 52)=W at *;by_cases h3:x.1=3/\cl=false
 ·rw[Yy h3]at HD
  obtain⟨h3a,rfl⟩:=h3;have h3':((x.1:Int)==3)=true:=by rw[h3a];rfl
  clear h3a;go_wp2_with fail;refine bodyPost_ret (v:=.agg #[.int .u8 3,.int .i64 0,.string ⟨#[]⟩]) (by simp[results,Tryz.results103,go_sem,r0,r1,r2]) rfl ⟨?_,set3 aK.o (YA _) _ _ _⟩;rw[HD.o];rfl
 ·rw[Yx h3]at HD
  have zk:=ae (wH (ai x.2.2) 4 (by have:=HF.o.short;omega))
  have uW:((x.1:Int)==3)=false∨(((x.1:Int)==3)=true/\cl=true):=by
   by_cases hx:x.1=3
   ·right
    refine⟨by rw[hx];rfl,?_⟩;cases cl
    ·exact absurd ⟨hx,rfl⟩ h3
    ·rfl
   ·left
    exact YN.2 (by omega)
  clear h3;rcases uW with h3' | ⟨h3',rfl⟩
  all_goals
   go_wp2_with fail;refine(zk.o _).mono ?_;rintro e w3 ⟨⟨t,rfl,ht⟩,aO⟩;have xx:=ae (FZ ht);obtain⟨⟨d0',d1',d2'⟩,⟨f0',f1',f2'⟩,_⟩:=(jI.o.kept aO).facts;obtain⟨⟨r0',r1',r2'⟩,⟨s0',s1',s2'⟩,_⟩:=(jF.o.kept aO).facts;have bT:=ae (ag aK.o aO);have HZZ:jaH (w.heap.size<=w1.heap.size):=ae (by omega);clear aO ht d0 d1 d2 f0 f1 f2 r0 r1 r2 s0 s1 s2 hW;go_wp2_with fail;refine bodyPost_ret (v:=.agg #[.int .u8 (x.1:Int),.int .i64 x.2.1,.string t]) (by simp[results,Tryz.results103,go_sem,r0',r1',r2',fb,vR]) rfl ⟨?_,set3 (bT.o.setCell (p:=⟨w1.heap.size,2,none⟩) HZZ.o _) (YA _) _ _ _⟩;rw[HD.o,xx.o]
theorem vz{x:Cl}(hf:aI x)(cl:Bool)(w:World):Calls Tryz.prog 106 #[cp x,.bool cl] w fun e w'=>e=.returned (.tuple #[.agg #[.int .u8 ((fo x cl).1.1:Int),.int .i64 (fo x cl).1.2.1,.string (ai (fo x cl).1.2.2)],.bool (fo x cl).2])/\Below w.heap.size w w':=by
 have HF:=ae hf;have hr:=Ceb.new w (.int .u8 0) (.int .i64 0) (.string ⟨#[]⟩);have cO:=aj w (.cells #[.int .u8 0,.int .i64 0,.string ⟨#[]⟩] 52)
 have HD:jaH (fo x cl=if x.1=3 then (match fG (lb (ai x.2.2)) 4 with
  | none=>(nul,false)
  | some a=>if cl=true then ((3,0,nb a),true) else (nul,false)) else (x,true)):=ae rfl
 generalize fo x cl=R at *;have HR:=ae hr;have bV:=ae cO;have HZ:jaH (w.heap.size<(w.alloc (.cells #[.int .u8 0,.int .i64 0,.string ⟨#[]⟩] 52)).heap.size):=ae hr.facts.2.2;clear hf hr cO;go_enter Tryz.func106,Tryz.ntmps106
 go_wp2_with fail;refine(kr HF.o.val _).mono ?_;rintro e w1 ⟨rfl,aA⟩;have aN:=ae (ag bV.o aA);have qf:=ae (HR.o.kept aA);have cG:w.heap.size<w1.heap.size:=Za HZ.o aA.size;clear aA HR;have xt:=Ceb.new w1 (.int .u8 (x.1:Int)) (.int .i64 x.2.1) (.string (ai x.2.2));have ay:=aj w1 (.cells #[.int .u8 (x.1:Int),.int .i64 x.2.1,.string (ai x.2.2)] 52);have jI:=ae xt;have jF:=ae (qf.o.kept ay);have aK:=ae (ag aN.o ay);obtain⟨⟨d0,d1,d2⟩,⟨f0,f1,f2⟩,_⟩:=xt.facts;obtain⟨⟨r0,r1,r2⟩,⟨s0,s1,s2⟩,_⟩:=jF.o.facts;clear xt ay qf;generalize hW:w1.alloc (.cells #[.int .u8 (x.1:Int),.int .i64 x.2.1,.string (ai x.2.2)] 52)=W at *;by_cases h3:x.1=3
 ·rw[Yy h3]at HD
  have h3':((x.1:Int) != 3)=false:=by rw[h3];rfl
  have UO:=ae (Hm (ai x.2.2) 4 (by have:=HF.o.short;omega));clear h3;go_wp2_with fail;refine(UO.o _).mono ?_;rintro e w3 ⟨⟨t,o,rfl,ho,ht⟩,aO⟩;obtain⟨⟨r0',r1',r2'⟩,⟨s0',s1',s2'⟩,_⟩:=(jF.o.kept aO).facts;have bT:=ae (ag aK.o aO);clear aO d0 d1 d2 f0 f1 f2 r0 r1 r2 s0 s1 s2 hW;cases ha:fG (lb (ai x.2.2)) 4 with
  | none =>
   rw[ha]at HD ho;have ho':o=false:=ho;subst ho';clear ha ho ht;simp only at HD;go_wp2_with fail;refine bodyPost_ret (v:=.tuple #[.agg #[.int .u8 0,.int .i64 0,.string ⟨#[]⟩],.bool false]) (by simp[results,Tryz.results106,go_sem,r0',r1',r2']) rfl ⟨?_,set3 bT.o (YA _) _ _ _⟩;rw[HD.o];rfl
  | some av =>
   rw[ha]at HD ho ht;have ho':o=true:=ho;subst ho';have xx:=ae (FZ (show lb t=av from ht));clear ha ho ht;simp only at HD;cases cl
   ·go_wp2_with fail
    refine bodyPost_ret (v:=.tuple #[.agg #[.int .u8 0,.int .i64 0,.string ⟨#[]⟩],.bool false]) (by simp[results,Tryz.results106,go_sem,r0',r1',r2']) rfl ⟨?_,set3 bT.o (YA _) _ _ _⟩;rw[HD.o];rfl
   ·go_wp2_with fail
    refine bodyPost_ret (v:=.tuple #[.agg #[.int .u8 3,.int .i64 0,.string t],.bool true]) (by simp[results,Tryz.results106,go_sem,r0',r1',r2']) rfl ⟨?_,set3 bT.o (YA _) _ _ _⟩;rw[HD.o,xx.o];rfl
 ·rw[Yx h3]at HD
  have h3':((x.1:Int) != 3)=true:=by simp;omega
  clear h3;go_wp2_with fail;refine bodyPost_ret (v:=.tuple #[.agg #[.int .u8 (x.1:Int),.int .i64 x.2.1,.string (ai x.2.2)],.bool true]) (by simp[results,Tryz.results106,go_sem,r0,r1,r2]) rfl ⟨?_,set3 aK.o (YA _) _ _ _⟩;rw[HD.o]
def bJ(cs:List Cl):Stt:=match aP cs with
 | []=>⟨cs.length,cs.length,false,false,nul,nul⟩
 | x::r=>⟨cs.length,(cs.length:Int)-((x::r).length:Nat),true,(fo (dF x r) ((x::r).all dT)).2,lP (eX x r) ((x::r).all dT),(fo (dF x r) ((x::r).all dT)).1⟩
theorem Stb.kept{W W':World}{p:Nat}{st:Stt}(h:Stb W p st)(hb:Below W.heap.size W W'):Stb W' p st:=by
 have hp:=h.at.1;unfold Stb at *;rw[hb.block p hp];exact h
theorem Stb.frozen{W:World}{p:Nat}{st:Stt}(h:Stb W p st)(i:Nat):W.frozen? ⟨p,i,none⟩=false:=by
 unfold Stb at h;simp[World.frozen?,h]
theorem Stb.lo{W:World}{p:Nat}{st:Stt}(h:Stb W p st)(c:Cl):Stb (((W.setCell ⟨p,4,none⟩ (.int .u8 (c.1:Int))).setCell ⟨p,5,none⟩ (.int .i64 c.2.1)).setCell ⟨p,6,none⟩ (.string (ai c.2.2))) p { st with lo:=c }:=by
 unfold Stb at *;rw[bY (bY (bY h 4 _) 5 _) 6 _];rfl
theorem Stb.other{W:World}{p q:Nat}{st:Stt}(h:Stb W q st)(hn:q≠p)(i:Nat)(v:Value):Stb (W.setCell ⟨p,i,none⟩ v) q st:=by
 unfold Stb at *;rw[heap_setCell_other _ ⟨p,i,none⟩ q _ hn];exact h
theorem es{B:Nat}{w W:World}(h:Below B w W){p:Nat}(hp:B<=p)(i:Nat)(x:Value):Below B w (W.setCell ⟨p,i,none⟩ x):=h.setCell (p:=⟨p,i,none⟩) hp _
theorem Ay{B:Nat}{w W:World}(h:Below B w W){p:Nat}(hp:B<=p)(x0 x1 x2 x3 x4 x5 x6 x7 x8 x9:Value):Below B w ((((((((((W.setCell ⟨p,0,none⟩ x0).setCell ⟨p,1,none⟩ x1).setCell ⟨p,2,none⟩ x2).setCell ⟨p,3,none⟩ x3).setCell ⟨p,4,none⟩ x4).setCell ⟨p,5,none⟩ x5).setCell ⟨p,6,none⟩ x6).setCell ⟨p,7,none⟩ x7).setCell ⟨p,8,none⟩ x8).setCell ⟨p,9,none⟩ x9) :=
 es (es (es (es (es (es (es (es (es (es h hp _ _) hp _ _) hp _ _) hp _ _) hp _ _) hp _ _) hp _ _) hp _ _) hp _ _) hp _ _
def stZ:Stt:=⟨0,0,false,false,nul,nul⟩
theorem qF{w:World}{v:Value}{cs:List Cl}(hs:Sv w v (aC cs))(hf:∀ c∈cs,aI c)(hl:cs.length<=1000):Calls Tryz.prog 59 #[v] w fun e w'=>e=.returned (kU (bJ cs))/\Below w.heap.size w w':=by
 have HF:=ae hf;have bN:=Stb.new w stZ;have cO:=aj w (.cells #[.int .i64 0,.int .i64 0,.bool false,.bool false,.int .u8 0,.int .i64 0,.string ⟨#[]⟩,.int .u8 0,.int .i64 0,.string ⟨#[]⟩] 54);have hz0':Stb (w.alloc (.cells #[.int .i64 0,.int .i64 0,.bool false,.bool false,.int .u8 0,.int .i64 0,.string ⟨#[]⟩,.int .u8 0,.int .i64 0,.string ⟨#[]⟩] 54)) w.heap.size stZ:=bN;have kj:=ae (hs.kept cO);obtain⟨a,cap,rfl,aV,bw⟩:=hs.form1;rw[ax]at *;have Rx:=ae hz0';have bV:=ae cO;have sA:(w.alloc (.cells #[.int .i64 0,.int .i64 0,.bool false,.bool false,.int .u8 0,.int .i64 0,.string ⟨#[]⟩,.int .u8 0,.int .i64 0,.string ⟨#[]⟩] 54)).heap.size=w.heap.size+1:=YB _ _;have uX:=ae sA;clear hs hf bN cO hz0' sA;generalize hA:w.alloc (.cells #[.int .i64 0,.int .i64 0,.bool false,.bool false,.int .u8 0,.int .i64 0,.string ⟨#[]⟩,.int .u8 0,.int .i64 0,.string ⟨#[]⟩] 54)=A at *;have HL:=ae hl;clear hl;go_enter Tryz.func59,Tryz.ntmps59
 go_wp2_with fail;try rw[hA]
 refine(nO kj.o HL.o).mono ?_;rintro e w1 ⟨⟨v1,rfl,dI⟩,aA⟩;have fK:=ae dI;have aN:=ae aA;clear dI aA hA;go_wp2_with fail;refine(uh fK.o HF.o aN.o.size).mono ?_;rintro e w2 ⟨⟨v2,rfl,cP⟩,ay⟩;have aK:=ae (aN.o.trans ay);have eP:=ae cP;have Qv:jaH (∀ c∈aP cs,aI c):=ae (fun c hc=>HF.o c (by unfold aP at hc;exact(jaz.1 hc).1));obtain⟨a2,cap2,rfl,BZ,pR⟩:=cP.form1;rw[ax]at *
 have co:jaH (bJ cs=match aP cs with
  | []=>⟨cs.length,cs.length,false,false,nul,nul⟩
  | x::r=>⟨cs.length,(cs.length:Int)-((x::r).length:Nat),true,(fo (dF x r) ((x::r).all dT)).2,lP (eX x r) ((x::r).all dT),(fo (dF x r) ((x::r).all dT)).1⟩):=ae rfl
 have XZ:jaH ((aP cs).length<=cs.length):=ae (jao _ _);clear ay cP fK aN kj;generalize aP cs=ns at *;have Gz:=ae (Rx.o.kept aK.o);have jb:=ae (ag bV.o aK.o);have mI:jaH (w.heap.size<w2.heap.size):=ae Gz.o.at.1;clear Rx bV aK bw pR;cases ns with
 | nil =>
  simp only at co;simp only[Zc]at *;have hSb:=Stb.new w2 ⟨cs.length,cs.length,false,false,nul,nul⟩;have hSb':Stb (w2.alloc (.cells #[.int .i64 (cs.length:Int),.int .i64 (cs.length:Int),.bool false,.bool false,.int .u8 0,.int .i64 0,.string ⟨#[]⟩,.int .u8 0,.int .i64 0,.string ⟨#[]⟩] 54)) w2.heap.size ⟨cs.length,cs.length,false,false,nul,nul⟩:=hSb;clear hSb;have HSb:=ae hSb';have hbG:=aj w2 (.cells #[.int .i64 (cs.length:Int),.int .i64 (cs.length:Int),.bool false,.bool false,.int .u8 0,.int .i64 0,.string ⟨#[]⟩,.int .u8 0,.int .i64 0,.string ⟨#[]⟩] 54);have hZG:=Gz.o.kept hbG;have UJ:wrap64 (cs.length:Int)=(cs.length:Int):=by have:=HL.o;unfold wrap64;omega
  obtain⟨_,⟨r0,r1,r2,r3⟩,⟨r4,r5,r6⟩,r7,r8,r9⟩:=Gz.o.at;obtain⟨_,⟨q0,q1,q2,q3⟩,⟨q4,q5,q6⟩,q7,q8,q9⟩:=hZG.at;simp only[YY]at r0 r1 r2 r3 r4 r5 r6 r7 r8 r9 q0 q1 q2 q3 q4 q5 q6 q7 q8 q9;have fz:=Gz.o.frozen;have fg:=hZG.frozen;have np:=mI.o;have qa:∀(X:World) (o:Obj) (i:Nat),w.heap.size<X.heap.size->(X.alloc o).cell? ⟨w.heap.size,i,none⟩=X.cell? ⟨w.heap.size,i,none⟩:=fun X o i h=>(aj X o).cell h
  have Fp:=Ay jb.o (YA _) (.int .i64 (cs.length:Int)) (.int .i64 (cs.length:Int)) (.bool false) (.bool false) (.int .u8 0) (.int .i64 0) (.string ⟨#[]⟩) (.int .u8 0) (.int .i64 0) (.string ⟨#[]⟩);have HSET:=ae Fp;clear hSb' Fp hbG hZG;go_wp2_with fail;refine bodyPost_ret (v:=.agg #[.int .i64 (cs.length:Int),.int .i64 (cs.length:Int),.bool false,.bool false,.int .u8 0,.int .i64 0,.string ⟨#[]⟩,.int .u8 0,.int .i64 0,.string ⟨#[]⟩]) (by simp[results,Tryz.results59,go_sem,qa,np,r0,r1,r2,r3,r4,r5,r6,r7,r8,r9]) rfl ⟨?_,?_⟩
  ·rw[co.o]
   rfl
  ·exact HSET.o.alloc HSET.o.size _
 | cons x r =>
  simp only at co;have hmp:(0:Int)<((x::r).length:Int):=by simp only[YI];omega
  have Lk:Stb (w2.alloc (.cells #[.int .i64 (cs.length:Int),.int .i64 ((cs.length:Int)-((x::r).length:Int)),.bool true,.bool false,.int .u8 0,.int .i64 0,.string ⟨#[]⟩,.int .u8 0,.int .i64 0,.string ⟨#[]⟩] 54)) w2.heap.size ⟨cs.length,(cs.length:Int)-((x::r).length:Int),true,false,nul,nul⟩:=Stb.new w2 ⟨cs.length,(cs.length:Int)-((x::r).length:Int),true,false,nul,nul⟩;have hbG:=aj w2 (.cells #[.int .i64 (cs.length:Int),.int .i64 ((cs.length:Int)-((x::r).length:Int)),.bool true,.bool false,.int .u8 0,.int .i64 0,.string ⟨#[]⟩,.int .u8 0,.int .i64 0,.string ⟨#[]⟩] 54);have HGB:=ae Lk;have HBG:=ae hbG;have UJ:wrap64 ((cs.length:Int)-((x::r).length:Int))=(cs.length:Int)-((x::r).length:Int):=by have:=HL.o;have:=XZ.o;unfold wrap64;omega
  have WT:jaH (∀ U,Below w2.heap.size w2 U->Sv U (.slice a2 (x::r).length cap2) (aC (x::r))/\Stb U w.heap.size stZ):=ae (fun U h=>⟨eP.o.kept h,Gz.o.kept h⟩);have Rt:jaH (aI x):=ae (Qv.o x (by simp));have lz:jaH (∀ c∈r,aI c):=ae (fun c hc=>Qv.o c (by simp[hc]));have HFMI:jaH (aI (eX x r)):=ae (kE Rt.o lz.o);have HFMA:jaH (aI (dF x r)):=ae (lO Rt.o lz.o);have HUN:=ae (fun U (h:Below w2.heap.size w2 U)=>ui (WT.o U h).1 Qv.o);have HMI:jaH (∀ U,Below w2.heap.size w2 U->Calls Tryz.prog 104 #[.slice a2 (x::r).length cap2,.func (.func 105) #[] #[]] U fun e w'=>e=.returned (cp (eX x r))/\Below U.heap.size U w'):=ae (fun U h=>Nz (WT.o U h).1 Qv.o (by simp));have HMA:jaH (∀ U,Below w2.heap.size w2 U->Calls Tryz.prog 107 #[.slice a2 (x::r).length cap2,.func (.func 105) #[] #[]] U fun e w'=>e=.returned (cp (dF x r))/\Below U.heap.size U w'):=ae (fun U h=>NA (WT.o U h).1 Qv.o (by simp));obtain⟨cl,fT⟩:∃ cl,cl=(x::r).all dT:=⟨_,rfl⟩;rw[← fT]at co HUN;clear fT Lk hbG;generalize eX x r=mi at *;generalize dF x r=ma at *;have Ya:=ae (yp HFMI.o cl);have HHI:=ae (vz HFMA.o cl);generalize lP mi cl=lo at *;generalize fo ma cl=hi at *;obtain⟨hi,hib⟩:=hi;simp only at co HHI;generalize WU:(x::r).length=m at *;have Li:0<m:=by omega
  have hmd:decide (0<m)=true:=YT Li;clear WU;obtain⟨_,⟨g0,g1,g2,g3⟩,⟨g4,g5,g6⟩,g7,g8,g9⟩:=HGB.o.at;simp only[YY]at g0 g1 g2 g3 g4 g5 g6 g7 g8 g9;go_wp2_with fail;refine(HUN.o _ HBG.o).mono ?_;rintro e w3 ⟨rfl,aO⟩;have bT:=ae (ag HBG.o aO);have TS:=ae (HGB.o.kept aO);clear aO g0 g1 g2 g3 g4 g5 g6 g7 g8 g9;go_wp2_with fail;refine(HMI.o _ bT.o).mono ?_;rintro e w4 ⟨rfl,bm⟩;have cA:=ae (ag bT.o bm);have Ry:=ae (TS.o.kept bm);clear bm;go_wp2_with fail;refine(Ya.o _).mono ?_;rintro e w5 ⟨rfl,bv⟩;have aJ:=ae (ag cA.o bv);have KI:=ae (Ry.o.kept bv);clear bv;obtain⟨_,⟨g0,g1,g2,g3⟩,⟨g4,g5,g6⟩,g7,g8,g9⟩:=KI.o.at;simp only[YY]at g0 g1 g2 g3 g4 g5 g6 g7 g8 g9;have fg:=KI.o.frozen;go_wp2_with fail;have dP:Below w2.heap.size w2 (((w5.setCell ⟨w2.heap.size,4,none⟩ (.int .u8 (lo.1:Int))).setCell ⟨w2.heap.size,5,none⟩ (.int .i64 lo.2.1)).setCell ⟨w2.heap.size,6,none⟩ (.string (ai lo.2.2))):=es (es (es aJ.o (YA _) _ _) (YA _) _ _) (YA _) _ _;have jA:=ae dP;have jC:=ae (KI.o.lo lo);clear dP fg g0 g1 g2 g3 g4 g5 g6 g7 g8 g9;refine(HMA.o _ jA.o).mono ?_;rintro e w7 ⟨rfl,jK⟩;have pT:=ae (ag jA.o jK);have HG7:=ae (jC.o.kept jK);clear jK;go_wp2_with fail;refine(HHI.o _).mono ?_;rintro e w8 ⟨rfl,lm⟩;have uL:=ae (ag pT.o lm);have Yb:=ae (HG7.o.kept lm);clear lm;obtain⟨_,⟨g0,g1,g2,g3⟩,⟨g4,g5,g6⟩,g7,g8,g9⟩:=Yb.o.at;obtain⟨_,⟨r0,r1,r2,r3⟩,⟨r4,r5,r6⟩,r7,r8,r9⟩:=(WT.o _ uL.o).2.at;simp only[YY]at g0 g1 g2 g3 g4 g5 g6 g7 g8 g9 r0 r1 r2 r3 r4 r5 r6 r7 r8 r9;have fg:=Yb.o.frozen;have fz:=(WT.o _ uL.o).2.frozen;have fb:¬ w2.heap.size=w.heap.size:=by have:=mI.o;omega
  have vR:¬ w.heap.size=w2.heap.size:=by have:=mI.o;omega
  have qX:=ae (ag jb.o uL.o);have uT:jaH (w.heap.size<=w2.heap.size):=ae (by have:=mI.o;omega);go_wp2_with fail;refine bodyPost_ret (v:=.agg #[.int .i64 (cs.length:Int),.int .i64 ((cs.length:Int)-(m:Int)),.bool true,.bool hib,.int .u8 (lo.1:Int),.int .i64 lo.2.1,.string (ai lo.2.2),.int .u8 (hi.1:Int),.int .i64 hi.2.1,.string (ai hi.2.2)]) (by simp[results,Tryz.results59,go_sem,fb,vR,r0,r1,r2,r3,r4,r5,r6,r7,r8,r9]) rfl ⟨?_,?_⟩
  ·rw[co.o]
   rfl
  ·exact Ay (es (es (es (es qX.o uT.o _ _) uT.o _ _) uT.o _ _) uT.o _ _) (YA _) _ _ _ _ _ _ _ _ _ _
theorem my(l:List UInt8):(nb l).length=l.length:=by simp[nb]
theorem pf{rs:List Nat}:∀ i,dQ (rs.map eu) i<=4*i
 | 0=>by simp
 | i+1=>by
  have:=pf (rs:=rs) i;by_cases h:i<rs.length
  ·have hd:(rs.map eu).drop i=eu rs[i]::(rs.map eu).drop (i+1):=by
    rw[Zz (by simpa using h)];simp
   rw[vX hd];have:=fX rs[i];have h2:(eu rs[i]).2=(dd rs[i]).length:=rfl;omega
  ·have h1:=oO (rs.map eu) i (by simp;omega)
   have h2:=oO (rs.map eu) (i+1) (by simp;omega);omega
theorem DQ{l a:List UInt8}(h:fG l 4=some a)(hl:l.length<=64):a.length<=64:=by
 have h0:=h;rw[ud]at h;unfold di at h;split at h
 ·split at h
  ·obtain rfl:=Option.some.inj h;omega
  ·split at h
   ·cases h
   ·next hc _ _ =>
    have hv:=xE hc;unfold upL at h;cases hg:fP (V l) (4:Int).toNat with
    | none=>rw[hg]at h;cases h
    | some i =>
     rw[hg]at h;have hi:=(oQ hg).1;simp only[ZU,Option.some.injEq]at h;subst h;have:=fX (nx ((V l).getD i (0,0)).1);have:=pf (rs:=gE l) i;rw[← hv]at this;have h4:(4:Int).toNat=4:=rfl;simp only[YC,YH];omega
 ·cases h
theorem Jq{x:Cl}(hf:aI x)(cl:Bool):aI (lP x cl):=by
 unfold lP;by_cases h:x.1=3/\cl=false
 ·rw[Yy h]
  exact Or.inr (Or.inr (Or.inr ⟨[],rfl,by simp,fun x hx=>by simp at hx⟩))
 ·rw[Yx h]
  have he:nb (bC (lb (ai ([]:List Nat))) 4)=[]:=by
   have:lb (ai ([]:List Nat))=[]:=rfl;rw[this];simp[bC,nb]
  rcases hf with rfl | ⟨n,rfl,hn⟩ | ⟨n,rfl,hn⟩ | ⟨s,rfl,hl,hs⟩
  ·refine Or.inl ?_
   show ((0:Nat),(0:Int),nb (bC (lb (ai ([]:List Nat))) 4))=nul
   rw[he];rfl
  ·refine Or.inr (Or.inl ⟨n,?_,hn⟩)
   show ((1:Nat),n,nb (bC (lb (ai ([]:List Nat))) 4))=_
   rw[he]
  ·refine Or.inr (Or.inr (Or.inl ⟨n,?_,hn⟩))
   show ((2:Nat),(n:Int),nb (bC (lb (ai ([]:List Nat))) 4))=_
   rw[he]
  ·refine Or.inr (Or.inr (Or.inr ⟨_,rfl,?_,Ux _⟩))
   rw[my];show (bC (lb (ai s)) 4).length<=64
   have:=nH (lb (ai s)) 4;have h2:(lb (ai s)).length=s.length:=by rw[bX,bx]
   omega
theorem DR{x:Cl}(hf:aI x)(cl:Bool):aI (fo x cl).1:=by
 unfold fo;by_cases h:x.1=3
 ·rw[Yy h]
  cases ha:fG (lb (ai x.2.2)) 4 with
  | none=>exact Or.inl rfl
  | some a =>
   simp only;cases cl
   ·exact Or.inl rfl
   ·refine Or.inr (Or.inr (Or.inr ⟨_,rfl,?_,Ux _⟩))
    rw[my];refine DQ ha ?_;rw[bX];exact hf.short
 ·rw[Yx h]
  exact hf
theorem kV{cs:List Cl}(hf:∀ c∈cs,aI c):aI (bJ cs).lo/\aI (bJ cs).hi:=by
 have GA:∀ c∈aP cs,aI c:=fun c hc=>hf c (by unfold aP at hc;exact(jaz.1 hc).1)
 unfold bJ;cases hn:aP cs with
 | nil=>exact⟨Or.inl rfl,Or.inl rfl⟩
 | cons y r =>
  rw[hn]at GA;have hy:=GA y (by simp);have hr:∀ c∈r,aI c:=fun c hc=>GA c (by simp[hc])
  exact⟨Jq (kE hy hr) _,DR (lO hy hr) _⟩
def bst(l:List Int):Nat->List Nat
 | 0=>[]
 | k+1=>jg l k
def NB(l:List Int):List Nat:=if l.length<=256 then jg l 4 else []
theorem gl(w:World)(x:Nat):aG (w.alloc (.cells #[.int .u8 (x:Int)] 5)) w.heap.size (.slice (some ⟨w.heap.size,0,none⟩) 1 1) [x] :=
 jaf w #[.int .u8 (x:Int)] 1 (YA _) (by unfold maxLen;omega) rfl
theorem Jr(l:List Int):bst l 1=[0]++gd l:=rfl
theorem Js(l:List Int):bst l 2=if (iK 0 l).length+1<(bst l 1).length then [1]++iK 0 l else bst l 1:=rfl
theorem Jt(l:List Int):bst l 3=if (iL l).length+1<(bst l 2).length then [2]++iL l else bst l 2:=rfl
theorem Ju(l:List Int):bst l 4=if (sw l).length+1<(bst l 3).length then [3]++sw l else bst l 3:=rfl
theorem Jv(l:List Int):bst l 5=if (mK l).length+1<(bst l 4).length then [4]++mK l else bst l 4:=rfl
theorem NC{w:World}{v:Value}{l:List Int}(hs:Sv w v (aH l))(hl:l.length<=256)(hi:Is l) :
  Calls Tryz.prog 170 #[v] w fun e w'=>(∃ v',e=.returned (.tuple #[v',.bool true])/\aG w' w.heap.size v' (jg l 4))/\Below w.heap.size w w':=by
 have HS:=ae hs;have HI:=ae hi;obtain⟨a,cap,rfl,aV,bw⟩:=hs.form;have Ct:¬ (l.length:Int) > 256:=by omega
 have uX:jaH (∀ k,(bst l k).length<=5131):=by
  intro k;cases k with
  | zero=>simp[bst]
  | succ k =>
   obtain⟨c,_,e⟩:=jR l k;rw[bst,e];have:=(eK c hi hl).1;simp
   omega
 have i0:∀ w,(Instr.index 246 (.agg #[.func (.func 226) #[] #[],.func (.func 227) #[] #[],.func (.func 228) #[] #[],.func (.func 229) #[] #[],.func (.func 230) #[] #[]]) (.int .i64 0)).run Tryz.prog w=.ok (.func (.func 226) #[] #[]) w:=fun _=>by kernel_rfl
 have hz_0:=(eK 0 hi hl).1;have HP0:jaH (∀ W,Sv W (.slice a l.length cap) (aH l)->Calls Tryz.prog 226 #[.slice a l.length cap] W (dJ W (gd l))):=fun W h=>rC h hl HI.o
 have i1:∀ w,(Instr.index 246 (.agg #[.func (.func 226) #[] #[],.func (.func 227) #[] #[],.func (.func 228) #[] #[],.func (.func 229) #[] #[],.func (.func 230) #[] #[]]) (.int .i64 1)).run Tryz.prog w=.ok (.func (.func 227) #[] #[]) w:=fun _=>by kernel_rfl
 have hz_1:=(eK 1 hi hl).1;have Cr:jaH (∀ W,Sv W (.slice a l.length cap) (aH l)->Calls Tryz.prog 227 #[.slice a l.length cap] W (dJ W (iK 0 l))):=fun W h=>oY h hl HI.o
 have i2:∀ w,(Instr.index 246 (.agg #[.func (.func 226) #[] #[],.func (.func 227) #[] #[],.func (.func 228) #[] #[],.func (.func 229) #[] #[],.func (.func 230) #[] #[]]) (.int .i64 2)).run Tryz.prog w=.ok (.func (.func 228) #[] #[]) w:=fun _=>by kernel_rfl
 have hz_2:=(eK 2 hi hl).1;have Qd:jaH (∀ W,Sv W (.slice a l.length cap) (aH l)->Calls Tryz.prog 228 #[.slice a l.length cap] W (dJ W (iL l))):=fun W h=>rE h hl HI.o
 have i3:∀ w,(Instr.index 246 (.agg #[.func (.func 226) #[] #[],.func (.func 227) #[] #[],.func (.func 228) #[] #[],.func (.func 229) #[] #[],.func (.func 230) #[] #[]]) (.int .i64 3)).run Tryz.prog w=.ok (.func (.func 229) #[] #[]) w:=fun _=>by kernel_rfl
 have hz_3:=(eK 3 hi hl).1;have TY:jaH (∀ W,Sv W (.slice a l.length cap) (aH l)->Calls Tryz.prog 229 #[.slice a l.length cap] W (dJ W (sw l))):=fun W h=>na h hl HI.o
 have i4:∀ w,(Instr.index 246 (.agg #[.func (.func 226) #[] #[],.func (.func 227) #[] #[],.func (.func 228) #[] #[],.func (.func 229) #[] #[],.func (.func 230) #[] #[]]) (.int .i64 4)).run Tryz.prog w=.ok (.func (.func 230) #[] #[]) w:=fun _=>by kernel_rfl
 have hz_4:=(eK 4 hi hl).1;have WJ:jaH (∀ W,Sv W (.slice a l.length cap) (aH l)->Calls Tryz.prog 230 #[.slice a l.length cap] W (dJ W (mK l))):=fun W h=>lM h hl HI.o
 clear hs aV bw hi;go_enter Tryz.func170,Tryz.ntmps170
 go_wp2_with fail;refine(eL _).mono ?_;rintro e w1 ⟨rfl,aA⟩;have aN:=ae aA;have cG:=aA.size;clear aA;go_wp2_with fail;go_loopw [4,12] (fun b i wr=>∃ k:Nat,k<=5/\i=.int .i64 (k:Int)/\aG wr w.heap.size b (bst l k)/\Below w.heap.size w wr) (fun _ i _=>5-(intOf i).toNat)
 case atStart=>exact⟨0,by omega,rfl,aG.nil _ _,aN.o⟩
 case round =>
  obtain⟨k,hk,rfl,aw,ao⟩:=hrel;have HO:=ae aw;have HB:=ae ao;have bM:=ao.size;obtain⟨ab,cb,rfl⟩:=aw.len;have gV:=uX.o k;clear aw ao;obtain rfl | rfl | rfl | rfl | rfl | rfl:k=0∨k=1∨k=2∨k=3∨k=4∨k=5:=by omega
  ·have HT:=ae (Jr l)
   have Rz:=ae (HS.o.kept (HB.o.alloc bM (.cells #[.int .u8 0] 5)));have za:=ae (gl wr 0);have jB:=ae ((Yz wr.heap.size wr).alloc (YA _) (.cells #[.int .u8 0] 5));have xy:(gd l).length<=5130:=hz_0;clear hz_0 hz_1 hz_2 hz_3 hz_4;generalize bst l 0=B0 at *;generalize gd l=EC at *;go_wp2_with fail;refine(HP0.o _ Rz.o).mono ?_;rintro e w3 ⟨⟨v3,rfl,eR⟩,aO⟩;have dx:=ae eR;have Fq:=ae (za.o.kept aO);have bT:=ae (jB.o.trans (aO.mono (by simp)));have jE:=aO.size;rw[YB]at jE;clear eR aO;go_wp2_with (first | (at_builtin;refine aB rfl _ _ rfl wr.heap.size _ _ [0] EC rfl Fq.o rfl dx.o.sv ?c1 ?c2 ?_))
   case c1=>simp;omega
   case c2=>omega
   intro v4 w4 o4 b4;have fU:=ae (o4.low bM);have cA:=ae (bT.o.trans b4);have fW:=ae (HB.o.trans (cA.o.mono bM));have UP:=ae (HO.o.kept cA.o);obtain⟨a4,c4,rfl⟩:=o4.len;clear o4 b4;go_wp2_with fail;go_roundw
   case rel=>exact⟨1,by omega,by go_num,by rw[HT.o];exact fU.o,fW.o⟩
   case measure=>simp[intOf]
  ·have HT:=ae (Js l)
   have Rz:=ae (HS.o.kept (HB.o.alloc bM (.cells #[.int .u8 1] 5)));have za:=ae (gl wr 1);have jB:=ae ((Yz wr.heap.size wr).alloc (YA _) (.cells #[.int .u8 1] 5));have xy:(iK 0 l).length<=5130:=hz_1;clear hz_0 hz_1 hz_2 hz_3 hz_4;generalize bst l 1=B0 at *;generalize iK 0 l=EC at *;go_wp2_with fail;refine(Cr.o _ Rz.o).mono ?_;rintro e w3 ⟨⟨v3,rfl,eR⟩,aO⟩;have dx:=ae eR;have Fq:=ae (za.o.kept aO);have bT:=ae (jB.o.trans (aO.mono (by simp)));have jE:=aO.size;rw[YB]at jE;clear eR aO;go_wp2_with (first | (at_builtin;refine aB rfl _ _ rfl wr.heap.size _ _ [1] EC rfl Fq.o rfl dx.o.sv ?c1 ?c2 ?_))
   case c1=>simp;omega
   case c2=>omega
   intro v4 w4 o4 b4;have fU:=ae (o4.low bM);have cA:=ae (bT.o.trans b4);have fW:=ae (HB.o.trans (cA.o.mono bM));have UP:=ae (HO.o.kept cA.o);obtain⟨a4,c4,rfl⟩:=o4.len;clear o4 b4;by_cases ar:EC.length+1<B0.length
   ·rw[Yy ar]at HT
    have Fs:(EC.length:Int)+1<(B0.length:Int):=(by omega);clear ar;go_wp2_with fail;go_roundw
    case rel=>exact⟨2,by omega,by go_num,by rw[HT.o];exact fU.o,fW.o⟩
    case measure=>simp[intOf]
   ·rw[Yx ar]at HT
    have Fs:¬ (EC.length:Int)+1<(B0.length:Int):=(by omega);clear ar;go_wp2_with fail;go_roundw
    case rel=>exact⟨2,by omega,by go_num,by rw[HT.o];exact UP.o,fW.o⟩
    case measure=>simp[intOf]
  ·have HT:=ae (Jt l)
   have Rz:=ae (HS.o.kept (HB.o.alloc bM (.cells #[.int .u8 2] 5)));have za:=ae (gl wr 2);have jB:=ae ((Yz wr.heap.size wr).alloc (YA _) (.cells #[.int .u8 2] 5));have xy:(iL l).length<=5130:=hz_2;clear hz_0 hz_1 hz_2 hz_3 hz_4;generalize bst l 2=B0 at *;generalize iL l=EC at *;go_wp2_with fail;refine(Qd.o _ Rz.o).mono ?_;rintro e w3 ⟨⟨v3,rfl,eR⟩,aO⟩;have dx:=ae eR;have Fq:=ae (za.o.kept aO);have bT:=ae (jB.o.trans (aO.mono (by simp)));have jE:=aO.size;rw[YB]at jE;clear eR aO;go_wp2_with (first | (at_builtin;refine aB rfl _ _ rfl wr.heap.size _ _ [2] EC rfl Fq.o rfl dx.o.sv ?c1 ?c2 ?_))
   case c1=>simp;omega
   case c2=>omega
   intro v4 w4 o4 b4;have fU:=ae (o4.low bM);have cA:=ae (bT.o.trans b4);have fW:=ae (HB.o.trans (cA.o.mono bM));have UP:=ae (HO.o.kept cA.o);obtain⟨a4,c4,rfl⟩:=o4.len;clear o4 b4;by_cases ar:EC.length+1<B0.length
   ·rw[Yy ar]at HT
    have Fs:(EC.length:Int)+1<(B0.length:Int):=(by omega);clear ar;go_wp2_with fail;go_roundw
    case rel=>exact⟨3,by omega,by go_num,by rw[HT.o];exact fU.o,fW.o⟩
    case measure=>simp[intOf]
   ·rw[Yx ar]at HT
    have Fs:¬ (EC.length:Int)+1<(B0.length:Int):=(by omega);clear ar;go_wp2_with fail;go_roundw
    case rel=>exact⟨3,by omega,by go_num,by rw[HT.o];exact UP.o,fW.o⟩
    case measure=>simp[intOf]
  ·have HT:=ae (Ju l)
   have Rz:=ae (HS.o.kept (HB.o.alloc bM (.cells #[.int .u8 3] 5)));have za:=ae (gl wr 3);have jB:=ae ((Yz wr.heap.size wr).alloc (YA _) (.cells #[.int .u8 3] 5));have xy:(sw l).length<=5130:=hz_3;clear hz_0 hz_1 hz_2 hz_3 hz_4;generalize bst l 3=B0 at *;generalize sw l=EC at *;go_wp2_with fail;refine(TY.o _ Rz.o).mono ?_;rintro e w3 ⟨⟨v3,rfl,eR⟩,aO⟩;have dx:=ae eR;have Fq:=ae (za.o.kept aO);have bT:=ae (jB.o.trans (aO.mono (by simp)));have jE:=aO.size;rw[YB]at jE;clear eR aO;go_wp2_with (first | (at_builtin;refine aB rfl _ _ rfl wr.heap.size _ _ [3] EC rfl Fq.o rfl dx.o.sv ?c1 ?c2 ?_))
   case c1=>simp;omega
   case c2=>omega
   intro v4 w4 o4 b4;have fU:=ae (o4.low bM);have cA:=ae (bT.o.trans b4);have fW:=ae (HB.o.trans (cA.o.mono bM));have UP:=ae (HO.o.kept cA.o);obtain⟨a4,c4,rfl⟩:=o4.len;clear o4 b4;by_cases ar:EC.length+1<B0.length
   ·rw[Yy ar]at HT
    have Fs:(EC.length:Int)+1<(B0.length:Int):=(by omega);clear ar;go_wp2_with fail;go_roundw
    case rel=>exact⟨4,by omega,by go_num,by rw[HT.o];exact fU.o,fW.o⟩
    case measure=>simp[intOf]
   ·rw[Yx ar]at HT
    have Fs:¬ (EC.length:Int)+1<(B0.length:Int):=(by omega);clear ar;go_wp2_with fail;go_roundw
    case rel=>exact⟨4,by omega,by go_num,by rw[HT.o];exact UP.o,fW.o⟩
    case measure=>simp[intOf]
  ·have HT:=ae (Jv l)
   have Rz:=ae (HS.o.kept (HB.o.alloc bM (.cells #[.int .u8 4] 5)));have za:=ae (gl wr 4);have jB:=ae ((Yz wr.heap.size wr).alloc (YA _) (.cells #[.int .u8 4] 5));have xy:(mK l).length<=5130:=hz_4;clear hz_0 hz_1 hz_2 hz_3 hz_4;generalize bst l 4=B0 at *;generalize mK l=EC at *;go_wp2_with fail;refine(WJ.o _ Rz.o).mono ?_;rintro e w3 ⟨⟨v3,rfl,eR⟩,aO⟩;have dx:=ae eR;have Fq:=ae (za.o.kept aO);have bT:=ae (jB.o.trans (aO.mono (by simp)));have jE:=aO.size;rw[YB]at jE;clear eR aO;go_wp2_with (first | (at_builtin;refine aB rfl _ _ rfl wr.heap.size _ _ [4] EC rfl Fq.o rfl dx.o.sv ?c1 ?c2 ?_))
   case c1=>simp;omega
   case c2=>omega
   intro v4 w4 o4 b4;have fU:=ae (o4.low bM);have cA:=ae (bT.o.trans b4);have fW:=ae (HB.o.trans (cA.o.mono bM));have UP:=ae (HO.o.kept cA.o);obtain⟨a4,c4,rfl⟩:=o4.len;clear o4 b4;by_cases ar:EC.length+1<B0.length
   ·rw[Yy ar]at HT
    have Fs:(EC.length:Int)+1<(B0.length:Int):=(by omega);clear ar;go_wp2_with fail;go_roundw
    case rel=>exact⟨5,by omega,by go_num,by rw[HT.o];exact fU.o,fW.o⟩
    case measure=>simp[intOf]
   ·rw[Yx ar]at HT
    have Fs:¬ (EC.length:Int)+1<(B0.length:Int):=(by omega);clear ar;go_wp2_with fail;go_roundw
    case rel=>exact⟨5,by omega,by go_num,by rw[HT.o];exact UP.o,fW.o⟩
    case measure=>simp[intOf]
  ·go_wp2_with fail
   go_ret2
   exact⟨⟨_,rfl,HO.o⟩,HB.o⟩
theorem SL{w:World}{v:Value}{l:List Int}(hs:Sv w v (aH l))(hl:¬ l.length<=256) :
  Calls Tryz.prog 170 #[v] w fun e w'=>(∃ v',e=.returned (.tuple #[v',.bool false])/\aG w' w.heap.size v' [])/\Below w.heap.size w w':=by
 obtain⟨a,cap,rfl,aV,bw⟩:=hs.form;have hm:l.length<=9223372036854775807:=by unfold maxLen at bw;omega
 have Ct:(l.length:Int) > 256:=by omega
 clear hs aV bw hl;go_enter Tryz.func170,Tryz.ntmps170
 go_wp2_with fail;go_ret2
 exact⟨⟨_,rfl,aG.nil _ _⟩,Yz _ _⟩
theorem ND{w:World}{v:Value}{l:List Int}(hs:Sv w v (aH l))(hi:Is l) :
  Calls Tryz.prog 170 #[v] w fun e w'=>(∃ v',e=.returned (.tuple #[v',.bool (decide (l.length<=256))])/\aG w' w.heap.size v' (NB l))/\Below w.heap.size w w':=by
 unfold NB;by_cases h:l.length<=256
 ·rw[YT h,Yy h]
  exact NC hs h hi
 ·rw[YO h,Yx h]
  exact SL hs h
end Go.Proofs.YtpljdjmpamjkhaaGreatDoor

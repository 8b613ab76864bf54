import Derived.Test.YtpljdjmpamjkhaaGreatDoorVan
set_option linter.unusedVariables false
set_option linter.unusedSimpArgs false
set_option maxRecDepth 100000
set_option maxHeartbeats 4000000
namespace Go.Proofs.YtpljdjmpamjkhaaGreatDoor
open Go.RowKit Go.Lib
theorem EX(x:Nat):IntKind.u8.wrap ((x:Nat):Int)=((x % 256:Nat):Int):=by rw[IntKind.wrap_u8];omega
theorem EY{w:World}{v:Value}{l:List Nat}(ht:Tab w)(hs:SvK w v l)(h8:Bs l)(hl:l.length<=100000000) :
  Calls Tryz.prog 40 #[v] w (dA w (bE l)):=by
 have HO:=ae (Yb ht hs h8);have HS:=ae hs;have HE:jgf (bE l=l++le4 (nt 0 l)):=ae rfl;have hc:=vX (c:=0) (by omega) h8;obtain⟨a,cap,rfl,h1,h2⟩:=hs.form;clear hs h8 ht h1 h2;generalize nt 0 l=c at *;have sN:(c:Int) / 256=((c / 256:Nat):Int):=by omega
 have nw:(c:Int) / 65536=((c / 65536:Nat):Int):=by omega
 have MD:(c:Int) / 16777216=((c / 16777216:Nat):Int):=by omega
 have HD:jgf (le4 c=[c % 256,c / 256 % 256,c / 65536 % 256,c / 16777216 % 256]):=ae rfl;have g0:=EX c;have g1:=EX (c / 256);have g2:=EX (c / 65536);have g3:=EX (c / 16777216);generalize c / 256=c1 at *;generalize c / 65536=c2 at *;generalize c / 16777216=c3 at *;generalize c % 256=d0 at *;generalize c1 % 256=d1 at *;generalize c2 % 256=d2 at *;generalize c3 % 256=d3 at *;obtain⟨i0,hi,ch,hz1',bv⟩:=jeD jv;go_enter Tryz.func40,Tryz.ntmps40
 go_wp2_with fail;refine HO.o.mono ?_;rintro e w1 ⟨rfl,rfl⟩;go_wp2_with (first | (refine wpList_make_own _ rfl _ _ 30 rfl w1.heap.size 5 i0 (.int .u8 0) 1 Tryz.underlying30 hi ch hz1' .i64 .i64 _ (l.length+4) rfl rfl ?m1 ?m2 ?m3 ?m4 ?_))
 case m1=>first | rfl | omega
 case m2=>rw[bv];omega
 case m3=>unfold maxLen;omega
 case m4=>omega
 intro w2 ft gY;have aE:Below w1.heap.size w1 w2:=(jej _ _).grown gY (jek _) (λk hk=>by cases hk);have ho2':aD w2 w1.heap.size (.slice (some ⟨w1.heap.size,0,none⟩) 0 (l.length+4)) []:=ft;have dz:=ae ho2';have aN:=ae aE;have gj:=ae (HS.o.kept aE);have jG:=aE.size;clear ft gY aE ho2';go_wp2_with (first | (at_builtin;refine dC rfl _ _ rfl w1.heap.size _ _ [] l rfl dz.o rfl gj.o ?c1 ?c2 ?_))
 case c1=>simp;omega
 case c2=>omega
 intro v3 w3 o3 aS;have dd:=ae o3;have bN:=ae (aN.o.trans aS);have hsz3:=aS.size;clear o3 aS;have VG:jgf (aD (w3.alloc (.cells #[.int .u8 (d0:Int),.int .u8 (d1:Int),.int .u8 (d2:Int),.int .u8 (d3:Int)] 5)) w3.heap.size (.slice (some ⟨w3.heap.size,0,none⟩) 4 4) [d0,d1,d2,d3]):=ae (oO w3 [d0,d1,d2,d3] (by unfold maxLen;simp));have eY:=ae (dd.o.kept (cF w3 (.cells #[.int .u8 (d0:Int),.int .u8 (d1:Int),.int .u8 (d2:Int),.int .u8 (d3:Int)] 5)));go_wp2_with (first | (at_builtin;refine dC rfl _ _ rfl w1.heap.size _ _ ([]++l) [d0,d1,d2,d3] rfl ?q1 rfl ?q2 ?c3 ?c4 ?_))
 case q1=>exact eY.o
 case q2=>exact VG.o.svK
 case c3=>simp;omega
 case c4=>rw[jel];omega
 intro v5 w5 o5 bD;try rw[jfi]at o5
 rw[← HD.o,← HE.o]at o5;have df:=ae o5;have aQ:=ae (bN.o.trans (((cF w3 (.cells #[.int .u8 (d0:Int),.int .u8 (d1:Int),.int .u8 (d2:Int),.int .u8 (d3:Int)] 5)).mono (by omega)).trans bD));clear o5 bD;go_wp2_with fail;go_ret
 exact⟨⟨_,rfl,df.o⟩,aQ.o⟩
theorem vY{a b:List Nat}(ha:Bs a)(hb:Bs b):(a.map Nat.toUInt8==b.map Nat.toUInt8)=decide (a=b):=by
 rw[jfN];simp only[beq_iff_eq,je7];exact⟨xM ha hb,λh=>by rw[h]⟩
theorem JP{w:World}{v u:Value}{a b:List Nat}(ha:SvK w v a)(hb:SvK w u b)(ha8:Bs a)(kR:Bs b) :
  Calls Tryz.prog 92 #[v,u] w λe w'=>e=.returned (.bool (decide (a=b)))/\w'=w:=by
 have lK:=ha.conv ha8;have ke:=hb.conv kR;have HE:=ae (vY ha8 kR);obtain⟨a1,cap1,rfl,_,_⟩:=ha.form;obtain⟨a2,cap2,rfl,_,_⟩:=hb.form;unfold txt at lK ke;generalize a.map Nat.toUInt8=x at *;generalize b.map Nat.toUInt8=y at *;generalize decide (a=b)=t at *;clear ha hb ha8 kR;go_enter Tryz.func92,Tryz.ntmps92
 go_wp2_with fail;go_ret
 refine⟨?_,rfl⟩;rw[← HE.o];simp
theorem JQ{w:World}{v:Value}{l:List Nat}(hs:SvK w v l)(hl:l.length<=100000000) :
  Calls Tryz.prog 93 #[v] w (dA w l):=by
 have HS:=ae hs;obtain⟨ad,cap,rfl,h1,h2,h3,_⟩:=hs;cases ad with
 | none =>
  have hc:=h3 rfl;subst hc;have qC:l=[]:=jeI (by omega);subst qC;have hq:(binOp .eql 30 (.slice none 0 0) (.slice none 0 0)).run Tryz.prog w=.ok (.bool true) w:=jfQ w 30 5 none 0 0 0 0 Tryz.underlying30;go_enter Tryz.func93,Tryz.ntmps93
  go_wp2_with fail;go_ret
  exact⟨⟨_,rfl,aD.nil _ _⟩,jej _ _⟩
 | some ad =>
  have HN:=ae (qQ w);have gj:=ae (HS.o.kept (cF w (.cells #[] 5)));clear h3;have hq:(binOp .eql 30 (.slice (some ad) l.length cap) (.slice none 0 0)).run Tryz.prog w=.ok (.bool false) w:=jfQ w 30 5 (some ad) l.length cap 0 0 Tryz.underlying30;go_enter Tryz.func93,Tryz.ntmps93
  go_wp2_with (first | (at_builtin;refine dC rfl _ _ rfl w.heap.size _ _ [] l rfl ?q1 rfl ?q2 ?c1 ?c2 ?_))
  case q1=>exact HN.o
  case q2=>exact gj.o
  case c1=>simp;omega
  case c2=>rw[jel];omega
  intro v3 w3 o3 aS;have dd:=ae o3;have bN:=ae ((cF w (.cells #[] 5)).trans aS);clear o3 aS;go_wp2_with fail;go_ret
  exact⟨⟨_,rfl,dd.o⟩,bN.o⟩
def jbx(w:World)(o:Option (List Nat))(e:Ending)(w':World):Prop:=(∃ v,e=.returned (.tuple #[v,.bool o.isSome])/\aD w' w.heap.size v (o.getD []))/\Below w.heap.size w w'
theorem uC{l:List Nat}(h:l.length<4):eC l=none:=by
 unfold eC;rw[jeh (by omega)]
theorem Ua{w:World}{v:Value}{l:List Nat}(ht:Tab w)(hs:SvK w v l)(h8:Bs l)(hl:l.length<=100000000) :
  Calls Tryz.prog 51 #[v] w (jbx w (eC l)):=by
 have HS:=ae hs;obtain⟨a,cap,rfl,h1,h2⟩:=hs.form;have oD:l.length<=9223372036854775807:=by omega
 by_cases h4:l.length<4
 ·rw[uC h4]
  have aB:(l.length:Int)-4<0:=by omega
  clear hs h8 ht h1 h2;go_enter Tryz.func51,Tryz.ntmps51
  go_wp2_with fail;go_ret2
  exact⟨⟨_,rfl,aD.nil _ _⟩,jej _ _⟩
 ·obtain⟨n,hn⟩:∃ n,l.length=n+4:=⟨l.length-4,by omega⟩
  have qI:¬ (n:Int)<0:=by omega
  have GF:n<=l.length:=by omega
  have hA:=hs.take GF;have HA:=ae hA;have H8:=ae h8;have H8t:=ae (h8.take n);have HSE:=ae (EY ht hA (h8.take n) (by rw[jeq];omega))
  have iT:jgf (eC l=if bE (l.take n)=l then some (l.take n) else none):=by
   show _=_
   unfold eC;rw[hn,jgc];simp
  have pt:(l.length:Int)-4=(n:Int):=by omega
  have bR:(l.take n).length<=100000000:=by rw[jeq];omega
  have jaq:n<=cap:=by omega
  rw[hn]at HS;rw[hn];clear hs h8 ht h1 h2 hA oD;have H8s:=ae H8t.o.seal;generalize eC l=R at *;generalize l.take n=m at *;go_enter Tryz.func51,Tryz.ntmps51
  go_wp2_with fail;refine HSE.o.mono ?_;rintro e w1 ⟨⟨v1,rfl,o1⟩,aH⟩;have HE1:=ae (JP (HS.o.kept aH) o1.svK H8.o H8s.o);have VK:=ae (HA.o.kept aH);have aP:=ae aH;clear o1 aH;by_cases oH:bE m=l
  ·rw[oH,jeB rfl]at HE1
   have HR:jgf (R=some m):=by show _=_;rw[iT.o,jei oH]
   clear oH iT H8s;go_wp2_with fail;refine HE1.o.mono ?_;rintro e w2 ⟨rfl,rfl⟩;go_wp2_with fail;refine(JQ VK.o bR).mono ?_;rintro e w3 ⟨⟨v3,rfl,o3⟩,aS⟩;have dd:=ae o3;have bN:=ae aS;clear o3 aS;go_wp2_with fail;go_ret2
   rw[HR.o];refine⟨⟨_,rfl,?_⟩,ai aP.o bN.o⟩;exact dd.o.low aP.o.size
  ·rw[jeu (λh=>oH h.symm)]at HE1
   have HR:jgf (R=none):=by show _=_;rw[iT.o,jeh oH]
   clear oH iT H8s;go_wp2_with fail;refine HE1.o.mono ?_;rintro e w2 ⟨rfl,rfl⟩;go_wp2_with fail;go_ret2
   rw[HR.o];exact⟨⟨_,rfl,aD.nil _ _⟩,aP.o⟩
theorem tB{w:World}{ops:Array Oper}{rest:List Oper}{o:Oper}{a:Act}{Q:Exit->Act->World->Prop}(dY:o.guard=none)(s x:Operand)
  (ho:o.op=.call { callee:=.builtin .append,args:=#[s,x],argTypes:=#[30,30] })
  (base:Nat) (v vx:Value) (l0 l:List Nat) (hs:a.eval s=v) (aA:aD w base v l0) (hx:a.eval x=vx) (eN:Sv w vx (aF .u8 l))
  (hbytes:l0.length+l.length<=140737488355328) (aI:base<=w.heap.size)
  (h:∀ v' w',aD w' base v' (l0++l)->w.grownBy w' v.ownBlock->wpList Tryz.prog ops Q rest (a.put o.dst v') w') :
  wpList Tryz.prog ops Q (o::rest) a w:=by
 obtain⟨i0,hi,ch,hz1',bv⟩:=jeD jv;unfold aD at *;obtain⟨ad,cap,rfl,h1,h2,h3,h4⟩:=eN;rw[ap]at *;cases ad with
 | none =>
  have hc:=h3 rfl;subst hc;have hl:l=[]:=jeI (by omega);subst hl;refine wpList_plain dY λK hK=>?_
  have hr:=jfI (P:=Tryz.prog) (w:=w) base 30 o.type 5 i0 1 Tryz.underlying30 hi v l0.length (aF .u8 l0) aA;unfold Oper.wp execOp;simp only[ho,resolve,invoke,builtin,Sem.run_bind,Sem.run_pure,Result.andThen_ok,jfs,jeT,je8,hs,hx,hr,jeL];refine hK _ _ (h v w ?_ ⟨rfl,rfl,rfl,jek _,λ_ _ _=>rfl⟩);rw[jeG];exact aA
 | some ad =>
  refine jeY (w:=w) dY s x 30 ho base 5 i0 (.int .u8 0) 1 1 Tryz.underlying30 hi ch hz1' bv rfl (by decide) v l0.length (aF .u8 l0) hs aA ad l.length cap (aF .u8 l) hx (by rw[ap];omega) ?_ (fY _ _) (by unfold maxLen;omega) (by omega) aI ?_
  ·intro j u hu
   have hj:j<l.length:=by
    have:=(List.getElem?_eq_some_iff.1 hu).1;rwa[ap]at this
   obtain⟨b,off,h5,_,h6⟩:=h4 (by omega);cases h5
   rw[lR];exact h6 j u hu
  ·intro v' w' o1 g1 _ _
   refine h v' w' ?_ g1;rw[ct,jem];exact o1
def Gs(W:World)(g:Nat)(v:Value)(bs:List Nat):Prop:=W.heap[g]?=some (.cells #[v] 30 (0,0))/\aD W (g+1) v bs
theorem Gs.lt{W:World}{g:Nat}{v:Value}{bs:List Nat}(h:Gs W g v bs):g<W.heap.size:=(Array.getElem?_eq_some_iff.1 h.1).1
theorem Gs.kept{W W':World}{g:Nat}{v:Value}{bs:List Nat}(h:Gs W g v bs)(hb:Below W.heap.size W W'):Gs W' g v bs:=⟨(hb.block g h.lt).trans h.1,h.2.kept hb⟩
def Yc(w:World)(g:Nat)(v:Value)(bs:List Nat)(e:Ending)(w':World):Prop :=
 e=.returned (.tuple #[])/\(∃ v',Gs w' g v' bs)/\Below g w w'/\∀ k,k<w.heap.size->k≠g->v.ownBlock≠some k->w'.heap[k]?=w.heap[k]?
def jC(w:World)(g:Nat)(bs:List Nat)(e:Ending)(w':World):Prop:=e=.returned (.tuple #[])/\(∃ v',Gs w' g v' bs)/\Below g w w'
theorem fo{w:World}{g:Nat}{v vp:Value}{bs ps:List Nat}(h:Gs w g v bs)(hp:Sv w vp (aF .u8 ps))(hl:bs.length+ps.length<=1000000) :
  Calls Tryz.prog 168 #[vp,.pointer (some ⟨g,0,none⟩)] w (Yc w g v (bs++ps)):=by
 have aB:=h.lt;have HG:=ae h;have HP:=ae hp;have hc:w.cell? ⟨g,0,none⟩=some v:=by rw[ay h.1];rfl
 have hfz:w.frozen? ⟨g,0,none⟩=false:=by simp[World.frozen?,h.1]
 clear h hp;go_enter Tryz.func168,Tryz.ntmps168
 go_wp2_with (first | (at_builtin;refine tB rfl _ _ rfl (g+1) _ _ bs ps rfl HG.o.2 rfl HP.o ?c1 ?c2 ?_))
 case c1=>omega
 case c2=>omega
 intro v' w1 o1 g1
 have fJ:some g≠v.ownBlock:=λe=>by
  have:=(HG.o.2.lt g e.symm).1;omega
 have hh:w1.heap[g]?=some (.cells #[v] 30 (0,0)):=(g1.block g aB fJ).trans HG.o.1;have lK:w1.cell? ⟨g,0,none⟩=some v:=by rw[ay hh];rfl
 have hfz1:w1.frozen? ⟨g,0,none⟩=false:=by simp[World.frozen?,hh]
 obtain⟨a1,c1,rfl⟩:=o1.len;have eO:=ae o1;have tX:=ae g1;have HH:=ae hh;clear o1 g1 hh hc hfz;go_wp2_with fail;go_end0
 have Lm:=cU HH.o 0 (.slice a1 (bs++ps).length c1);rw[← jem];refine⟨rfl,⟨_,Lm,?_⟩,?_,?_⟩
 ·have:=Fr.own (p:=g) ((Fr.refl g w1.heap.size w1).set 0 (.slice a1 (bs++ps).length c1)) eO.o (by omega)
  exact this
 ·exact((jej g w).grown tX.o (by omega) (λk hk=>by have:=(HG.o.2.lt k hk).1;omega)).setCell (jek _) _
 ·intro k hk hkg hkv
  rw[Below.heap_setCell _ _ _ _ hkg];exact tX.o.block k hk (λe=>hkv e.symm)
theorem Ub{w:World}{p q:Value}{bs:List Nat}
  (H:∀ W,Gs W w.heap.size (.slice none 0 0) []->Below w.heap.size w W->Calls Tryz.prog 124 #[.func (.func 168) #[] #[.pointer (some ⟨w.heap.size,0,none⟩)],p,q] W (jC W w.heap.size bs)) :
  Calls Tryz.prog 123 #[.func (.func 124) #[] #[p,q]] w (dA w bs):=by
 have HH:=ae H;clear H;go_enter Tryz.func123,Tryz.ntmps123
 go_wp2_with fail;refine(HH.o _ ?g1 ?g2).mono ?_
 case g1=>exact⟨jeK _ _,aD.nil _ _⟩
 case g2=>exact ak _ _
 rintro e w1 ⟨rfl,⟨v1,eZ⟩,aH⟩;have lK:w1.cell? ⟨w.heap.size,0,none⟩=some v1:=by rw[ay eZ.1];rfl
 have tX:=ae eZ;have aP:=ae ((ak w (.cells #[.slice none 0 0] 30)).trans aH);clear eZ aH;go_wp2_with fail;go_ret
 exact⟨⟨_,rfl,tX.o.2.low (by omega)⟩,aP.o⟩
theorem Uc{w:World}{p:Value}{bs:List Nat}
  (H:∀ W,Gs W w.heap.size (.slice none 0 0) []->Below w.heap.size w W->Calls Tryz.prog 205 #[.func (.func 168) #[] #[.pointer (some ⟨w.heap.size,0,none⟩)],p] W (jC W w.heap.size bs)) :
  Calls Tryz.prog 123 #[.func (.func 205) #[] #[p]] w (dA w bs):=by
 have HH:=ae H;clear H;go_enter Tryz.func123,Tryz.ntmps123
 go_wp2_with fail;refine(HH.o _ ?g1 ?g2).mono ?_
 case g1=>exact⟨jeK _ _,aD.nil _ _⟩
 case g2=>exact ak _ _
 rintro e w1 ⟨rfl,⟨v1,eZ⟩,aH⟩;have lK:w1.cell? ⟨w.heap.size,0,none⟩=some v1:=by rw[ay eZ.1];rfl
 have tX:=ae eZ;have aP:=ae ((ak w (.cells #[.slice none 0 0] 30)).trans aH);clear eZ aH;go_wp2_with fail;go_ret
 exact⟨⟨_,rfl,tX.o.2.low (by omega)⟩,aP.o⟩
theorem Ud{w:World}{p q:Value}{bs:List Nat}
  (H:∀ W,Gs W w.heap.size (.slice none 0 0) []->Below w.heap.size w W->Calls Tryz.prog 210 #[.func (.func 168) #[] #[.pointer (some ⟨w.heap.size,0,none⟩)],p,q] W (jC W w.heap.size bs)) :
  Calls Tryz.prog 123 #[.func (.func 210) #[] #[p,q]] w (dA w bs):=by
 have HH:=ae H;clear H;go_enter Tryz.func123,Tryz.ntmps123
 go_wp2_with fail;refine(HH.o _ ?g1 ?g2).mono ?_
 case g1=>exact⟨jeK _ _,aD.nil _ _⟩
 case g2=>exact ak _ _
 rintro e w1 ⟨rfl,⟨v1,eZ⟩,aH⟩;have lK:w1.cell? ⟨w.heap.size,0,none⟩=some v1:=by rw[ay eZ.1];rfl
 have tX:=ae eZ;have aP:=ae ((ak w (.cells #[.slice none 0 0] 30)).trans aH);clear eZ aH;go_wp2_with fail;go_ret
 exact⟨⟨_,rfl,tX.o.2.low (by omega)⟩,aP.o⟩
theorem Pr{w w':World}{B e size n g cap:Nat}{xs:List Value}(h:w.ownsRow B e size (.slice (some ⟨g,0,none⟩) n cap) n xs)(hb:w'.heap[g]?=w.heap[g]?):w'.ownsRow B e size (.slice (some ⟨g,0,none⟩) n cap) n xs:=by
 obtain⟨h0,h | ⟨g',cap',cur,h1,h2,h3,h4⟩⟩:=h
 ·exact⟨h0,Or.inl h⟩
 ·cases h1
  exact⟨h0,Or.inr ⟨g,cap,cur,rfl,h2,hb.trans h3,h4⟩⟩
theorem jQ{l:List (Nat×Int×List Nat)}{j:Nat}(h:j<l.length):bP (l.take (j+1))=bP (l.take j)++[if l[j].1=0 then 0 else 1]:=by
 unfold bP;rw[jeA h,jeE];rfl
theorem EZ{l:List (Nat×Int×List Nat)}(h:¬ 0∈bP l):dO l=[0]:=jeh h
theorem Aw{l:List (Nat×Int×List Nat)}(h:0∈bP l):dO l=[1]++bm (bP l) 1:=jei h
theorem jD{l:List Nat}(h:∀ x∈l,x<2)(hl:l.length<=256):(bm l 1).length<=32:=by
 rw[eP h hl];unfold by8;omega
theorem Cc{w:World}{g:Nat}{v vl:Value}{bs:List Nat}{l:List (Nat×Int×List Nat)}(hg:Gs w g v bs)(zj:bs.length<=100000)(hs:Sv w vl (aJ l))(hl:l.length<=256) :
  Calls Tryz.prog 125 #[.func (.func 168) #[] #[.pointer (some ⟨g,0,none⟩)],vl] w (jC w g (bs++dO l)):=by
 obtain⟨i0,hi,ch,hz1',bv⟩:=jeD pZ;have HG:=ae hg;have CZ:=hg.lt;have HS:=ae hs;obtain⟨a,cap,rfl,aW,bC⟩:=hs.form1;rw[aG]at *;have hcm':cap<=9223372036854775807:=by unfold maxLen at bC;omega
 have H2:=ae (ee l);have HSH:=ae (jD (ee l) (by rw[br];exact hl));have HN:=ae (EZ (l:=l));have HY:=ae (Aw (l:=l));obtain⟨D,hD⟩:∃ D,bP l=D:=⟨_,rfl⟩;have hDl:D.length=l.length:=by rw[← hD,br]
 have QF:jgf (∀ k (h:k<l.length),D[k]?=some (if l[k].1=0 then 0 else 1)):=ae (λk h=>by rw[← hD];simp[bP,h]);rw[hD]at H2 HSH HN HY;have HD:=ae hD;have kY:=ae hDl;clear hs bC hD hDl hg;go_enter Tryz.func125,Tryz.ntmps125
 go_wp2_with (first | (refine jfo _ rfl _ _ 142 rfl w.heap.size 92 i0 (.int .u64 0) 1 Tryz.underlying142 hi ch hz1' .i64 .i64 _ _ l.length rfl rfl ?m1 ?m2 ?m3 ?m4 ?m5 ?_))
 case m1=>rfl
 case m2=>rfl
 case m3=>rw[bv];omega
 case m4=>unfold maxLen;omega
 case m5=>omega
 intro w4 gQ iZ;have bG:Below w.heap.size w w4:=(jej _ _).grown iZ (jek _) (λk hk=>by cases hk)
 have ho4':w4.ownsRow w.heap.size 92 1 (.slice (some ⟨w.heap.size,0,none⟩) l.length l.length) l.length (aF .u64 (fill D 0)):=by
  rw[oY,kY.o,← ko];simpa using gQ
 have eY:=ae ho4';have cp:=ae bG;clear gQ iZ bG ho4';go_wp2_with fail;go_loopw [5,13] (λo i wr=>∃ k:Nat,o=.bool (decide (0∈bP (l.take k)))/\i=.int .i64 (k:Int)/\k<=l.length/\wr.ownsRow w.heap.size 92 1 (.slice (some ⟨w.heap.size,0,none⟩) l.length l.length) l.length (aF .u64 (fill D k))/\Below w.heap.size w wr) (λ_ i _=>l.length-(intOf i).toNat)
 case atStart=>exact⟨0,rfl,rfl,by omega,eY.o,cp.o⟩
 case round =>
  obtain⟨k,rfl,rfl,hk,how,az⟩:=hrel;have HB:=ae az;have HO:=ae how;have bH:=az.size;clear az how;by_cases aB:k<l.length
  ·have hkD:k<D.length:=by rw[kY.o];exact aB
   have hval:D[k]=if l[k].1=0 then 0 else 1:=by
    have:=QF.o k aB;rw[List.getElem?_eq_getElem hkD]at this;exact Option.some.inj this
   obtain⟨b,off,rfl,hb,dN⟩:=(HS.o.kept HB.o).at1 (cQ aB);have jH:k<(fill D k).length:=by rw[lm (by omega)];exact hkD
   have tT:=ae (rp hkD);have sC:=ae (jQ aB);have HVF:=ae (kj l[k]);have HVN:=ae (oP l[k]);have fD:=HO.o;have Gn:=(fD.cellAt k (by omega)).trans (bU jH);have Gp:=fD.frozenAt k;have hST:=fD.stored k (.int .u64 (D[k]:Int));rw[ku,tT.o]at hST;have cP:=ae hST;have Mx:=(fD.lt w.heap.size rfl).2;clear hST fD;generalize l[k]=c at *;generalize (fill D k)[k]=y at *;generalize D[k]=z at *;by_cases h0:c.1=0
   ·rw[HVN.o h0]at dN
    rw[jei h0]at hval sC;subst hval;have HFl:jgf (decide (0∈bP (l.take (k+1)))=true):=ae (jeB (by rw[sC.o];simp));clear HVF HVN h0;have Qw:=ae (xF false);generalize decide (0∈bP (l.take k))=fl at *;cases fl
    ·go_wp2_with fail
     refine(Qw.o _).mono ?_;rintro e w5 ⟨rfl,rfl⟩;go_wp2_with fail;go_roundw
     case rel=>exact⟨k+1,by rw[HFl.o],by go_num,by omega,cP.o.1,cT HB.o (jek _) _⟩
     case measure=>simp[intOf];omega
    ·go_wp2_with fail
     refine(Qw.o _).mono ?_;rintro e w5 ⟨rfl,rfl⟩;go_wp2_with fail;go_roundw
     case rel=>exact⟨k+1,by rw[HFl.o],by go_num,by omega,cP.o.1,cT HB.o (jek _) _⟩
     case measure=>simp[intOf];omega
   ·obtain⟨tt,uu,hvv⟩:=HVF.o h0
    rw[hvv]at dN;rw[jeh h0]at hval sC;subst hval;have HFl:jgf (decide (0∈bP (l.take (k+1)))=decide (0∈bP (l.take k))):=ae (by rw[sC.o];simp);clear HVF HVN h0 hvv;have Qw:=ae (xF true);generalize decide (0∈bP (l.take k))=fl at *;cases fl
    ·go_wp2_with fail
     refine(Qw.o _).mono ?_;rintro e w5 ⟨rfl,rfl⟩;go_wp2_with fail;go_roundw
     case rel=>exact⟨k+1,by rw[HFl.o],by go_num,by omega,cP.o.1,cT HB.o (jek _) _⟩
     case measure=>simp[intOf];omega
    ·go_wp2_with fail
     refine(Qw.o _).mono ?_;rintro e w5 ⟨rfl,rfl⟩;go_wp2_with fail;go_roundw
     case rel=>exact⟨k+1,by rw[HFl.o],by go_num,by omega,cP.o.1,cT HB.o (jek _) _⟩
     case measure=>simp[intOf];omega
  ·obtain rfl:k=l.length:=by omega
   have e:fill D l.length=D:=by
    have:=ro D;rwa[kY.o]at this
   rw[e]at HO;rw[jes,HD.o];have HGr:=ae (HG.o.kept HB.o);clear e;by_cases h0:0∈D
   ·rw[jeB h0]
    have HHB:=ae (HY.o h0);have Dj:=ae (fo (HGr.o.kept (ak wr (.cells #[.int .u8 1] 5))) (cH wr 1).sv (by simp;omega));have cK:(wr.alloc (.cells #[.int .u8 1] 5)).heap.size=wr.heap.size+1:=jel _ _;clear HN HY h0;go_wp2_with fail;refine Dj.o.mono ?_;rintro e w6 ⟨rfl,⟨v6,ME⟩,dW,VL⟩;have Mx:=(HO.o.lt w.heap.size rfl).2
    have AU:dJ w6 w.heap.size (.slice (some ⟨w.heap.size,0,none⟩) l.length l.length) D:=by
     unfold dJ;rw[kY.o];refine Pr (bJ HO.o (ak wr (.cells #[.int .u8 1] 5))) (VL w.heap.size (by omega) (by omega) (λe=>?_));have:=(HG.o.2.lt w.heap.size e).2;omega
    have Gq:=dW.size;have kS:=ae ME;have gW:=ae ((HB.o.mono (jeJ CZ)).trans (((ak wr (.cells #[.int .u8 1] 5)).mono (by omega)).trans dW));have HP6:=ae (Ar AU.sv H2.o);clear ME dW VL AU;go_wp2_with fail;refine HP6.o.mono ?_;rintro e w7 ⟨⟨v7,rfl,YS⟩,iR⟩;have HP7:=ae (fo (kS.o.kept iR) YS.sv (by have:=HSH.o;simp;omega));have ir:=ae (gW.o.trans (iR.mono (by omega)));clear YS iR;go_wp2_with fail;refine HP7.o.mono ?_;rintro e w8 ⟨rfl,⟨v8,hg8⟩,kR,_⟩;rw[jez]at hg8;have HG8:=ae hg8;have qD:=ae (ir.o.trans kR);clear hg8 kR;go_wp2_with fail;go_end0
    rw[HHB.o];exact⟨rfl,⟨_,HG8.o⟩,qD.o⟩
   ·rw[jeu h0]
    have HHB:=ae (HN.o h0);have Dj:=ae (fo (HGr.o.kept (ak wr (.cells #[.int .u8 0] 5))) (cH wr 0).sv (by simp;omega));have cK:(wr.alloc (.cells #[.int .u8 0] 5)).heap.size=wr.heap.size+1:=jel _ _;clear HN HY h0;go_wp2_with fail;refine Dj.o.mono ?_;rintro e w6 ⟨rfl,⟨v6,ME⟩,dW,VL⟩;have kS:=ae ME;have gW:=ae ((HB.o.mono (jeJ CZ)).trans (((ak wr (.cells #[.int .u8 0] 5)).mono (by omega)).trans dW));clear ME dW VL;go_wp2_with fail;go_end0
    rw[HHB.o];exact⟨rfl,⟨_,kS.o⟩,gW.o⟩
def dD(z:Value)(l:List Value)(i:Nat):List Value:=l.take i++List.replicate (l.length-i) z
theorem mS(z:Value)(l:List Value):dD z l 0=List.replicate l.length z:=by simp[dD]
theorem pg(z:Value)(l:List Value):dD z l l.length=l:=by simp[dD]
theorem iF{z:Value}{l:List Value}{i:Nat}(h:i<=l.length):(dD z l i).length=l.length:=by simp[dD];omega
theorem ms{z:Value}{l:List Value}{i:Nat}(h:i<l.length):(dD z l i).set i l[i]=dD z l (i+1):=by
 unfold dD
 rw[List.set_append_right _ _ (by simp;omega),jeq,jfk (by omega),jfM,show l.length-i=(l.length-(i+1))+1 by omega,
  List.replicate_succ,jew,jeA h,jez]
 rfl
theorem Sv.keptB{W W':World}{B:Nat}{v:Value}{xs:List Value}(h:Sv W v xs)(hv:∀ k,v.ownBlock=some k->k<B)(hb:Below B W W'):Sv W' v xs:=by
 obtain⟨a,cap,rfl,h1,h2,h3,h4⟩:=h;refine⟨a,cap,rfl,h1,h2,h3,λh0=>?_⟩;obtain⟨b,off,rfl,h5,h6⟩:=h4 h0;have hb':b<B:=hv b rfl;exact⟨b,off,rfl,jeH h5 hb.size,λj x hj=>(hb.cell (p:=⟨b,off+j,none⟩) hb').trans (h6 j x hj)⟩
theorem tC(W:World)(o:Obj):Below W.heap.size W (W.drew.alloc o):=by
 have h1:Below W.heap.size W W.drew:=⟨rfl,rfl,rfl,jek _,λ_ _=>rfl⟩;exact h1.alloc (jek _) _
theorem JR{s:List Nat}(hb:Bs s)(hl:s.length<=140737488355328)(W:World):∃ g cap W',(convert 9 30 (.string (am s))).run Tryz.prog W=.ok (.slice (some ⟨g,0,none⟩) s.length cap) W'/\Sv W' (.slice (some ⟨g,0,none⟩) s.length cap) (aF .u8 s)/\Below W.heap.size W W'/\W'.heap.size=W.heap.size+1:=by
 have hr:=run_bytes_of_string (P:=Tryz.prog) W 9 30 5 (am s) Tryz.underlying9 Tryz.underlying30 Tryz.underlying5;rw[bi]at hr;refine⟨_,_,_,hr,?_,tC _ _,?_⟩
 ·have gi:=grownCap_ge W s.length 0 5
  have pt:=grownCap_le_maxLen W s.length 0 5 (by unfold maxLen;omega);refine⟨_,_,by rw[ap],by rw[ap];exact gi,pt,λe=>by(cases e),λh0=>⟨_,_,rfl,by rw[jel];show W.heap.size<W.heap.size+1;omega,λj x hj=>?_⟩⟩
  have hj':j<s.length:=by
   have:=(List.getElem?_eq_some_iff.1 hj).1;rwa[ap]at this
  rw[bU hj']at hj;have hh:(W.drew.alloc (.cells (bytesRow (am s) (grownCap W s.length 0 5)) 5 ((bytesRow (am s) (grownCap W s.length 0 5)).size,(bytesRow (am s) (grownCap W s.length 0 5)).size+1))).heap[W.heap.size]?=some (.cells (bytesRow (am s) (grownCap W s.length 0 5)) 5 ((bytesRow (am s) (grownCap W s.length 0 5)).size,(bytesRow (am s) (grownCap W s.length 0 5)).size+1)):=jeK W.drew _;rw[jeO,ay hh,← hj];unfold bytesRow am;have hx:s[j]<256:=hb _ (jeo hj');rw[Array.getElem?_append_left (by simpa using hj')];simp[hj',jfd hx]
 ·rw[jel]
  rfl
theorem gL{l:List Int}(hi:Is l)(hl:l.length<=256):(cV l).length<=5131:=(kn hi hl).1
theorem Fa{w:World}{v:Value}{l:List Int}(hs:Sv w v (aL l))(hl:l.length<=256)(hi:Is l):Calls Tryz.prog 231 #[v] w (dA w (cnt l)):=by
 have HB:=ae (tv hs hl hi);have bR:=gL hi hl;have kf:jgf (cnt l=uv (cV l).length++cV l):=rfl;clear hs hi;generalize cnt l=cn at *;generalize cV l=bs at *;have nB:=bO (n:=bs.length) (by omega);have HP:=ae (dQ bs.length (by omega));go_enter Tryz.func231,Tryz.ntmps231
 go_wp2_with fail;refine HB.o.mono ?_;rintro e w1 ⟨⟨v1,rfl,ei⟩,aH⟩;have eO:=ae ei;have aP:=ae aH;have cK:=aH.size;obtain⟨a1,c1,rfl⟩:=ei.len;clear ei aH;go_wp2_with fail;refine(HP.o _).mono ?_;rintro e w2 ⟨⟨v2,rfl,ft⟩,aE⟩;have dz:=ae (ft.low cK);have aN:=ae aE;have bv:=aE.size;clear ft aE;go_wp2_with (first | (at_builtin;refine ax rfl _ _ rfl w.heap.size _ _ (uv bs.length) bs rfl dz.o rfl (eO.o.kept aN.o).sv ?c1 ?c2 ?_))
 case c1=>omega
 case c2=>omega
 intro v4 w4 o4 b4;have eY:=ae o4;have cp:=ae ((aP.o.trans (aN.o.mono cK)).trans b4);clear o4 b4;go_wp2_with fail;go_ret
 rw[kf.o];exact⟨⟨_,rfl,eY.o⟩,cp.o⟩
theorem lu{l:List (List Nat)}{k:Nat}(h:k<l.length):(l.take (k+1)).flatten=(l.take k).flatten++l[k]:=by
 rw[jeA h,jf0];simp
theorem ji{l:List (List Nat)}(ht:Ts l)(hl:l.length<=256)(k:Nat):(l.take k).flatten.length<=16384:=by
 have h:=(oT (l:=l.take k) λs hs=>ht s (je2 hs)).1;rw[jeq]at h;omega
theorem uD{w:World}{g:Nat}{v vl:Value}{bs:List Nat}{l:List (List Nat)}(hg:Gs w g v bs)(zj:bs.length<=100000)(hs:Sv w vl (cC l))(gl:∀ k,vl.ownBlock=some k->k<g)(hl:l.length<=256)(ht:Ts l) :
  Calls Tryz.prog 206 #[.func (.func 168) #[] #[.pointer (some ⟨g,0,none⟩)],vl] w (jC w g (bs++fH l)):=by
 obtain⟨i0,hi,ch,hz1',bv⟩:=jeD Ag;have HG:=ae hg;have CZ:=hg.lt;have HS:=ae hs;have HT:=ae ht;have sE:=ae gl;obtain⟨a,cap,rfl,aW,bC⟩:=hs.form1;rw[dP]at *;have hcm':cap<=9223372036854775807:=by unfold maxLen at bC;omega
 have HTX:jgf (fH l=cnt (em l)++l.flatten):=rfl;have zr:=ae (λk=>ji ht hl k);obtain⟨D,hD⟩:∃ D,em l=D:=⟨_,rfl⟩;have hDl:D.length=l.length:=by rw[← hD,bM]
 have HDI:jgf (Is D):=ae (hD ▸ ig ht);have QF:jgf (∀ k (h:k<l.length),(aL D)[k]?=some (.int .i64 ((am l[k]).size:Int))):=ae (λk h=>by rw[← hD];simp[em,aL,h,bi]);rw[hD]at HTX;have kY:=ae hDl
 have eX:(cnt D).length<=5141:=by
  have h1:=gL HDI.o (by omega);have h2:=bO (n:=(cV D).length) (by omega);unfold cnt;rw[jem];omega
 clear hs bC hD hDl hg ht gl;go_enter Tryz.func206,Tryz.ntmps206
 go_wp2_with (first | (refine jfo _ rfl _ _ 143 rfl w.heap.size 2 i0 (.int .i64 0) 1 Tryz.underlying143 hi ch hz1' .i64 .i64 _ _ l.length rfl rfl ?m1 ?m2 ?m3 ?m4 ?m5 ?_))
 case m1=>rfl
 case m2=>rfl
 case m3=>rw[bv];omega
 case m4=>unfold maxLen;omega
 case m5=>omega
 intro w4 gQ iZ;have bG:Below w.heap.size w w4:=(jej _ _).grown iZ (jek _) (λk hk=>by cases hk)
 have ho4':w4.ownsRow w.heap.size 2 1 (.slice (some ⟨w.heap.size,0,none⟩) l.length l.length) l.length (dD (.int .i64 0) (aL D) 0):=by
  rw[mS,cy,kY.o,← jfO];simpa using gQ
 have eY:=ae ho4';have cp:=ae bG;clear gQ iZ bG ho4';go_wp2_with fail;go_loopw [14] (λi wr=>∃ k:Nat,i=.int .i64 (k:Int)/\k<=l.length/\wr.ownsRow w.heap.size 2 1 (.slice (some ⟨w.heap.size,0,none⟩) l.length l.length) l.length (dD (.int .i64 0) (aL D) k)/\Below w.heap.size w wr) (λi _=>l.length-(intOf i).toNat)
 case atStart=>exact⟨0,rfl,by omega,eY.o,cp.o⟩
 case round =>
  obtain⟨k,rfl,hk,how,az⟩:=hrel;have HB:=ae az;have HO:=ae how;have bH:=az.size;clear az how;by_cases aB:k<l.length
  ·have hkD:k<(aL D).length:=by rw[cy,kY.o];exact aB
   have hval:(aL D)[k]=.int .i64 ((am l[k]).size:Int):=by
    have:=QF.o k aB;rw[List.getElem?_eq_getElem hkD]at this;exact Option.some.inj this
   obtain⟨b,off,rfl,hb,dN⟩:=(HS.o.kept HB.o).at1 (cO aB);have jH:k<(dD (.int .i64 0) (aL D) k).length:=by rw[iF (by omega)];exact hkD
   have tT:=ae (ms (z:=.int .i64 0) hkD);have fD:=HO.o;have Gn:=(fD.cellAt k (by omega)).trans (List.getElem?_eq_getElem jH);have Gp:=fD.frozenAt k;have hST:=fD.stored k (.int .i64 ((am l[k]).size:Int));rw[← hval,tT.o]at hST;rw[hval]at hST;have cP:=ae hST;have Mx:=(fD.lt w.heap.size rfl).2;have jG:(am l[k]).size<=64:=by rw[bi];exact(HT.o _ (jeo aB)).1
   rw[dM]at dN;clear hST fD hval;generalize (dD (.int .i64 0) (aL D) k)[k]=y at *;generalize am l[k]=S at *;go_wp2_with fail;go_roundw
   case rel=>exact⟨k+1,by go_num,by omega,cP.o.1,cT HB.o (jek _) _⟩
   case measure=>simp[intOf];omega
  ·obtain rfl:k=l.length:=by omega
   have e:dD (.int .i64 0) (aL D) l.length=aL D:=by
    have:=pg (.int .i64 0) (aL D);rwa[cy,kY.o]at this
   rw[e]at HO
   have ho':bF wr w.heap.size (.slice (some ⟨w.heap.size,0,none⟩) l.length l.length) D:=by
    unfold bF;rw[kY.o];exact HO.o
   have HCT:=ae (Fa ho'.sv (by rw[kY.o];exact hl) HDI.o);have HGr:=ae (HG.o.kept HB.o);clear e ho' HO;go_wp2_with fail;refine HCT.o.mono ?_;rintro e w6 ⟨⟨v6,rfl,AU⟩,dW⟩;have HP6:=ae (fo (HGr.o.kept dW) AU.sv (by omega));have gW:=ae (HB.o.trans (dW.mono bH));have Gq:=dW.size;clear AU dW;go_wp2_with fail;refine HP6.o.mono ?_;rintro e w7 ⟨rfl,⟨v7,hg7⟩,iR,_⟩;have HG7:=ae hg7;have ir:=ae ((gW.o.mono (jeJ CZ)).trans iR);clear hg7 iR;go_wp2_with fail;go_loopw [31] (λi wr=>∃ k:Nat,i=.int .i64 (k:Int)/\k<=l.length/\(∃ v',Gs wr g v' (bs++cnt D++(l.take k).flatten))/\Below g w wr) (λi _=>l.length-(intOf i).toNat)
   case atStart=>exact⟨0,rfl,by omega,⟨v7,by simpa using HG7.o⟩,ir.o⟩
   case round =>
    obtain⟨k,rfl,hk,⟨vq,hgq⟩,vP⟩:=hrel;have HGQ:=ae hgq;have pu:=ae vP;have zl:=vP.size;clear hgq vP;by_cases aB:k<l.length
    ·obtain⟨b,off,rfl,hb,dN⟩:=(HS.o.keptB sE.o pu.o).at1 (cO aB)
     obtain⟨Dk,YP⟩:=HT.o _ (jeo aB);obtain⟨gc,cc,wc,vL,yB,hbc,hzc⟩:=JR YP (by omega) wr;rw[dM]at dN;have AX:=ae (lu aB);have jH:=zr.o k;have HPQ:=ae (fo (HGQ.o.kept hbc) yB (by simp only[jem];omega));have HBC:=ae (pu.o.trans (hbc.mono (jet (jeJ HGQ.o.lt) (jek _))));have fK:g<wr.heap.size:=HGQ.o.lt;clear yB hbc YP Dk;generalize am l[k]=S at *;generalize l[k]=x at *;go_wp2_with fail;refine HPQ.o.mono ?_;rintro e w8 ⟨rfl,⟨v8,hg8⟩,kR,_⟩;rw[jez,← AX.o]at hg8;have HG8:=ae hg8;have qD:=ae (HBC.o.trans kR);clear hg8 kR;go_wp2_with fail;go_roundw
     case rel=>exact⟨k+1,by go_num,by omega,⟨_,HG8.o⟩,qD.o⟩
     case measure=>simp[intOf];omega
    ·obtain rfl:k=l.length:=by omega
     rw[jes,jez,← HTX.o]at HGQ;go_wp2_with fail;go_end0
     exact⟨rfl,⟨_,HGQ.o⟩,pu.o⟩
open Go.Shelf
theorem Ue:∀{a b:List UInt8},a<b↔a.map UInt8.toNat<b.map UInt8.toNat
 | [],[]=>by simp
 | [],y::t=>by simp
 | x::s,[]=>by simp
 | x::s,y::t=>by
  have ih:=Ue (a:=s) (b:=t);have h3:(x::s<y::t)↔(x<y∨x=y/\s<t):=List.cons_lt_cons_iff;have h4:(x.toNat::s.map UInt8.toNat<y.toNat::t.map UInt8.toNat)↔(x.toNat<y.toNat∨x.toNat=y.toNat/\s.map UInt8.toNat<t.map UInt8.toNat):=List.cons_lt_cons_iff;have h5:x=y↔x.toNat=y.toNat:=⟨λe=>by rw[e],λe=>UInt8.toNat_inj.1 e⟩;rw[jeT,jeT,h3,h4,ih,UInt8.lt_iff_toNat_lt,h5]
theorem Uf{x y:List UInt8}(h1:x≠y)(h2:¬ y<x):x<y:=by
 rcases List.le_iff_lt_or_eq.1 (show x<=y from h2)with h | h
 ·exact h
 ·exact absurd h h1
def qs(l:List (List UInt8)):List (List UInt8):=l.mergeSort λx y=>decide (x<=y)
theorem lv(l:List (List UInt8)):(qs l).length=l.length:=List.length_mergeSort l
theorem mT{l:List (List UInt8)}:∀ m,m<=l.length->∀ z,z∈compactUpTo l.toArray m↔z∈l.take m
 | 0,_,z=>by simp[compactUpTo]
 | m+1,hm,z=>by
  have ih:=mT (l:=l) m (by omega);have hg:l.toArray[m]! = l[m]:=by simp[show m<l.length by omega]
  rw[compactUpTo_succ,jeN,ih z,jeA (by omega),jeN,hg];by_cases hk:keeps l.toArray m=true
  ·rw[jei hk]
  ·rw[jeh hk]
   constructor
   ·rintro(h | h)
    ·exact Or.inl h
    ·simp at h
   ·rintro(h | h)
    ·exact Or.inl h
    ·left
     have h':z=l[m]:=by simpa using h
     unfold keeps at hk;simp only[je7]at hk;have eZ:l.toArray[m-1]! = l[m-1]:=by simp[show m-1<l.length by omega]
     rw[hg,eZ]at hk;have hm0:m≠0:=λe=>hk (Or.inl e)
     have he:l[m]=l[m-1]:=Decidable.byContradiction λe=>hk (Or.inr e)
     rw[h',he];exact jge.2 ⟨m-1,by omega,rfl⟩
theorem nl{l:List (List UInt8)}(hs:l.Pairwise (·<=·)):∀ m,m<=l.length->(compactUpTo l.toArray m).Pairwise (· < ·)
 | 0,_=>by simp[compactUpTo]
 | m+1,hm=>by
  have ih:=nl hs m (by omega);have hg:l.toArray[m]! = l[m]:=by simp[show m<l.length by omega]
  rw[compactUpTo_succ,hg];by_cases hk:keeps l.toArray m=true
  ·rw[jei hk]
   refine List.pairwise_append.2 ⟨ih,by simp,λa ha b hb=>?_⟩;have hb':b=l[m]:=by simpa using hb
   subst hb';have h1:=(mT m (by omega) a).1 ha;obtain⟨j,hj,rfl⟩:=jge.1 h1;have hjm:j<m:=(by omega);unfold keeps at hk;simp only[je7]at hk;have eZ:l.toArray[m-1]! = l[m-1]:=by simp[show m-1<l.length by omega]
   rw[hg,eZ]at hk
   have h2:l[m]≠l[m-1]:=by
    rcases hk with h | h
    ·omega
    ·exact h
   have h3:l[m-1]<=l[m]:=jfW.1 hs (m-1) m (by omega) (by omega) (by omega)
   have h4:l[j]<=l[m-1]:=by
    rcases jeM j (m-1)with h | h
    ·exact jfW.1 hs j (m-1) (by omega) (by omega) h
    ·have:j=m-1:=by omega
     subst this;exact List.le_refl _
   have h5:l[m-1]<l[m]:=Uf (λe=>h2 e.symm) h3;exact List.lt_of_le_of_lt h4 h5
  ·rw[jeh hk,jeG]
   exact ih
theorem Cd(l:List (List UInt8)):(Lib.compact (qs l)).map (λs=>s.map UInt8.toNat)=tuq (l.map λs=>s.map UInt8.toNat):=by
 have hs:(qs l).Pairwise (·<=·):=by
  have:=List.pairwise_mergeSort (le:=λx y:List UInt8=>decide (x<=y)) (λa b c h1 h2=>by simp only[je7]at *;exact List.le_trans h1 h2) (λa b=>by simp only[Bool.or_eq_true,je7];exact List.le_total a b) l;exact this.imp (λh=>by simpa using h)
 refine uf ?_ (wV _) (λz=>?_)
 ·exact List.pairwise_map.2 ((nl hs _ (jek _)).imp λh=>Ue.1 h)
 ·rw[jr]
  have hm:=λy=>mT (l:=qs l) (qs l).length (jek _) y
  rw[jes]at hm;unfold Lib.compact;simp only[jeF,hm];constructor
  ·rintro⟨y,hy,rfl⟩
   exact⟨y,List.mem_mergeSort.1 hy,rfl⟩
  ·rintro⟨y,hy,rfl⟩
   exact⟨y,List.mem_mergeSort.2 hy,rfl⟩
def upT(l:List (List Nat)):List (List UInt8):=l.map λs=>s.map Nat.toUInt8
def dnT(l:List (List UInt8)):List (List Nat):=l.map λs=>s.map UInt8.toNat
theorem Fb(l:List (List Nat)):cC l=(upT l).map encStr:=by
 unfold cC upT;rw[jeW];rfl
theorem up_dn(u:List (List UInt8)):upT (dnT u)=u:=by
 unfold upT dnT;rw[jeW];conv=>rhs;rw[← jfj u]
 apply jff
 intro s _;simp only[Function.comp,jeW,id];conv=>rhs;rw[← jfj s]
 apply jff
 intro x _;simp
theorem dn_up{l:List (List Nat)}(h:∀ s∈l,Bs s):dnT (upT l)=l:=by
 unfold upT dnT;rw[jeW];conv=>rhs;rw[← jfj l]
 apply jff
 intro s hs;exact fE (h s hs)
theorem tD(l:List (List Nat)):(upT l).length=l.length:=jen _
theorem JS{l:List (List Nat)}(h:∀ s∈l,Bs s):Lib.compact (qs (upT l))=upT (tuq l):=by
 have h1:=Cd (upT l);have h2:(upT l).map (λs=>s.map UInt8.toNat)=l:=dn_up h;rw[h2]at h1;rw[← h1];exact(up_dn _).symm
theorem Sv.texts{W:World}{b off n cap:Nat}{l:List (List Nat)}(h:Sv W (.slice (some ⟨b,off,none⟩) n cap) (cC l)):∀ j,j<(l.map am).length->W.cell? ⟨b,off+j,none⟩=some (.string ((l.map am).getD j ByteArray.empty)):=by
 intro j hj;rw[jen]at hj;obtain⟨b',off',h1,_,h2⟩:=h.at1 (cO hj);cases h1
 rw[h2,dM];simp[List.getD_eq_getElem?_getD,hj]
theorem JT{w:World}{v:Value}{l:List (List Nat)}(hs:Sv w v (cC l))(hl:l.length<=256) :
  Calls Tryz.prog 207 #[v] w λe w'=>(∃ v',e=.returned v'/\eL w' w.heap.size v' l)/\Below w.heap.size w w':=by
 have zg:=hs;obtain⟨a,cap,rfl,h1,h2,h3,h4⟩:=hs;rw[dP]at *;cases a with
 | none =>
  have hc:=h3 rfl;have qC:l=[]:=jeI (by omega);subst qC;refine Calls.mono (AnyG.slices_Clone_string_nil lH _ _ w) ?_;rintro e w' ⟨rfl,rfl⟩;exact⟨⟨_,rfl,eL.nil _ _⟩,jej _ _⟩
 | some a =>
  rcases jfa l.length with h0 | h0
  ·have qC:l=[]:=jeI h0
   subst qC;refine Calls.mono (AnyG.slices_Clone_string_zero lH a cap w) ?_;rintro e w' ⟨v',rfl,ho,_,hb⟩;exact⟨⟨_,rfl,ho⟩,hb⟩
  ·obtain⟨b,off,h5,h6,h7⟩:=h4 h0
   cases h5
   refine Calls.mono (AnyG.slices_Clone_string lH b off l.length cap (l.map am) w (by rw[jen];omega) (by omega) zg.texts) ?_;rintro e w' ⟨v',rfl,ho,_,hb⟩;rw[je4 (by rw[jen];omega),jeW]at ho;exact⟨⟨_,rfl,ho⟩,hb⟩
theorem rQ{α : Type}[Inhabited α]{enc:α->Value}{w:World}{g q k:Nat}{d:Array α}(h:k≠g):(Sort.putRow enc (Sort.ahead w q) g 0 d).heap[k]?=w.heap[k]?:=by
 simp[Sort.putRow,Sort.mapBlock,Sort.ahead,Array.getElem?_modify,Ne.symm h]
theorem Ps{w:World}{B:Nat}{v:Value}{zs:List (List UInt8)}(h:w.ownsRow B 9 1 v zs.length (zs.map encStr))(hl:zs.length<=256)(hB:B<=w.heap.size) :
  Calls Tryz.prog 208 #[v] w λe w'=>e=.returned (.tuple #[])/\w'.ownsRow B 9 1 v zs.length ((qs zs).map encStr)/\Below B w w'/\∀ k,k<w.heap.size->v.ownBlock≠some k->w'.heap[k]?=w.heap[k]?:=by
 by_cases hv:v=.slice none 0 0
 ·subst hv
  have qC:zs=[]:=by
   rcases h.2 with ⟨_,h2⟩ | ⟨g,cap,cur,h2,_⟩
   ·exact jeI h2
   ·cases h2
  subst qC;refine Calls.mono (AnyM.slices_Sort_string_none rz none 0 w) ?_;rintro e w' ⟨rfl,rfl⟩;exact⟨rfl,(by unfold qs;rw[List.mergeSort_nil];exact h),jej _ _,λ_ _ _=>rfl⟩
 ·obtain⟨g,cap,rfl,hb,hg,hc,hm,bR,hH⟩:=holds_of_ownsRow (enc:=encStr) h hv
  refine Calls.mono (AnyM.slices_Sort_string rz g 0 cap zs w hH hg (by omega)) ?_;rintro e w' ⟨rfl,n,os,rfl⟩;have h1:=ownsRow_putRow (enc:=encStr) (q:=n) (k:=zs.length) (ys:=qs zs) h (lv zs) (jek _);have aH:=below_putRow (enc:=encStr) (q:=n) (d:=(qs zs).toArray) (jej B w) hb;refine⟨rfl,?_,aH.trans (kB os (by have:=aH.size;omega)),λk hk fJ=>?_⟩
  ·rw[je4 (by rw[lv];omega)]at h1
   exact bJ h1 (kB os (jek _))
  ·have hkg:k≠g:=λe=>fJ (by rw[e];rfl)
   have h2:=rQ (enc:=encStr) (w:=w) (q:=n) (d:=(qs zs).toArray) hkg;have h3:=aH.size;exact((kB (w:=Sort.putRow encStr (Sort.ahead w n) g 0 (qs zs).toArray) os (jek _)).block k (jeH hk h3)).trans h2
theorem Ce{w:World}{B:Nat}{v:Value}{zs:List (List UInt8)}(h:w.ownsRow B 9 1 v zs.length (zs.map encStr))(hl:zs.length<=256)(hB:B<=w.heap.size) :
  Calls Tryz.prog 209 #[v] w λe w'=>(∃ v',e=.returned v'/\w'.ownsRow B 9 1 v' (Lib.compact zs).length ((Lib.compact zs).map encStr))/\Below B w w'/\∀ k,k<w.heap.size->v.ownBlock≠some k->w'.heap[k]?=w.heap[k]?:=by
 by_cases hv:v=.slice none 0 0
 ·subst hv
  have qC:zs=[]:=by
   rcases h.2 with ⟨_,h2⟩ | ⟨g,cap,cur,h2,_⟩
   ·exact jeI h2
   ·cases h2
  subst qC;refine Calls.mono (AnyG.slices_Compact_string_empty pF none 0 w) ?_;rintro e w' ⟨rfl,rfl⟩;exact⟨⟨_,rfl,h⟩,jej _ _,λ_ _ _=>rfl⟩
 ·obtain⟨g,cap,rfl,hb,hg,hc,hm,bR,hH⟩:=holds_of_ownsRow (enc:=encStr) h hv
  have pt:=Lib.compact_length_le zs;refine Calls.mono (AnyG.slices_Compact_string pF g 0 cap zs w hH (by omega) (by omega)) ?_;rintro e w' ⟨rfl,q,rfl⟩;have h1:=ownsRow_putRow (enc:=encStr) (q:=q) (k:=(Lib.compact zs).length) (ys:=Lib.compact zs++List.replicate (zs.length-(Lib.compact zs).length) []) h (by simp;omega) (by omega);rw[jfh]at h1;exact⟨⟨_,rfl,h1⟩,below_putRow (enc:=encStr) (jej B w) hb,λk hk fJ=>rQ (λe=>fJ (by rw[e];rfl))⟩
theorem Fc{u:List (List Nat)}{x:List Nat}(hr:uY u)(hx:x∈u){t:Nat}(ht:t<u.length):u[t]<x↔t<plT u x:=by
 obtain⟨h1,h2⟩:=lj hx;rw[List.getElem?_eq_getElem h1]at h2;have h3:u[plT u x]=x:=Option.some.inj h2;have hp:=jfW.1 hr;constructor
 ·intro h
  rcases jeM t (plT u x)with h4 | h4
  ·exact h4
  ·rcases jeM (plT u x) t with h5 | h5
   ·have h6:=hp _ _ h1 ht h5
    rw[h3]at h6;exact absurd (sY h h6) (jfU _)
   ·obtain rfl:t=plT u x:=by omega
    rw[h3]at h;exact absurd h (jfU _)
 ·intro h
  have:=hp _ _ ht h1 h;rwa[h3]at this
theorem Fe{w:World}{v:Value}{u:List (List Nat)}(hs:Sv w v (cC u))(hl:u.length<=256)(hr:uY u)(hu:∀ s∈u,Bs s){x:List Nat}(hx:x∈u) :
  Calls Tryz.prog 234 #[v,.string (am x)] w λe w'=>(∃ r,e=.returned (.tuple #[.int .i64 (plT u x:Nat),r]))/\Below w.heap.size w w':=by
 have zg:=hs;obtain⟨a,cap,rfl,h1,h2,h3,h4⟩:=hs;rw[dP]at *;have tQ:0<u.length:=List.length_pos_of_mem hx;obtain⟨b,off,rfl,h6,h7⟩:=h4 tQ;refine Calls.mono (Any2.slices_BinarySearch_string SO b off u.length cap (λt=>(u.map am).getD t (am x)) (am x) w (by omega) ?_) ?_
 ·intro j hj
  have:=h7 j _ (cO hj);rw[this,dM];simp[List.getD_eq_getElem?_getD,hj]
 ·rintro e w' ⟨rfl,q,rfl⟩
  have hk:=(lj hx).1
  have zj:Lib.bsGo (λt=>Op.bytesLess ((u.map am).getD t (am x)).toList (am x).toList) u.length 0 u.length=plT u x:=by
   refine Lib.bsGo_spec _ (plT u x) ?_ ?_ _ _ _ (by omega) (by omega) (by omega)
   ·intro t ht
    have Lr:t<u.length:=(by omega);have e1:(u.map am).getD t (am x)=am u[t]:=by simp[List.getD_eq_getElem?_getD,Lr]
    simp only[e1,bI];rw[nK (hu _ (jeo Lr)) (hu _ hx)];exact jeB ((Fc hr hx Lr).2 ht)
   ·intro t ht
    rcases jeM t u.length with Lr | Lr
    ·have e1:(u.map am).getD t (am x)=am u[t]:=by simp[List.getD_eq_getElem?_getD,Lr]
     simp only[e1,bI];rw[nK (hu _ (jeo Lr)) (hu _ hx)];refine jeu (λh=>?_);have:=(Fc hr hx Lr).1 h;omega
    ·have e1:(u.map am).getD t (am x)=am x:=by
      rw[List.getD_eq_getElem?_getD,List.getElem?_eq_none (by rw[jen];omega)];rfl
     simp only[e1,bI];rw[nK (hu _ hx) (hu _ hx)];exact jeu (jfU _)
  rw[zj];exact⟨⟨_,rfl⟩,ar (jej _ _) q⟩
theorem Ff{w:World}{vu v:Value}{u l:List (List Nat)}(hu:Sv w vu (cC u))(hs:Sv w v (cC l))(hl:l.length<=256)(vK:u.length<=256)(hr:uY u)(hub:∀ s∈u,Bs s)(hm:∀ x∈l,x∈u) :
  Calls Tryz.prog 211 #[vu,v] w λe w'=>(∃ v',e=.returned v'/\bF w' w.heap.size v' (l.map λs=>(plT u s:Int)))/\Below w.heap.size w w':=by
 obtain⟨i0,hi,ch,hz1',bv⟩:=jeD Ag;have HU:=ae hu;have HS:=ae hs;have HR:=ae hr;have HM:=ae hm;have HUB:=ae hub;obtain⟨a,cap,rfl,aW,bC⟩:=hs.form1;rw[dP]at *;have hcm':cap<=9223372036854775807:=by unfold maxLen at bC;omega
 clear hs hu bC hr hm hub;obtain⟨D,hD⟩:∃ D,(l.map λs=>(plT u s:Int))=D:=⟨_,rfl⟩;have hDl:D.length=l.length:=by rw[← hD,jen]
 have QF:jgf (∀ k (h:k<l.length),(aL D)[k]?=some (.int .i64 (plT u l[k]:Nat))):=ae (λk h=>by rw[← hD];simp[aL,h]);rw[hD];have kY:=ae hDl;clear hD hDl;go_enter Tryz.func211,Tryz.ntmps211
 go_wp2_with (first | (refine jfo _ rfl _ _ 143 rfl w.heap.size 2 i0 (.int .i64 0) 1 Tryz.underlying143 hi ch hz1' .i64 .i64 _ _ l.length rfl rfl ?m1 ?m2 ?m3 ?m4 ?m5 ?_))
 case m1=>rfl
 case m2=>rfl
 case m3=>rw[bv];omega
 case m4=>unfold maxLen;omega
 case m5=>omega
 intro w4 gQ iZ;have bG:Below w.heap.size w w4:=(jej _ _).grown iZ (jek _) (λk hk=>by cases hk)
 have ho4':w4.ownsRow w.heap.size 2 1 (.slice (some ⟨w.heap.size,0,none⟩) l.length l.length) l.length (dD (.int .i64 0) (aL D) 0):=by
  rw[mS,cy,kY.o,← jfO];simpa using gQ
 have eY:=ae ho4';have cp:=ae bG;clear gQ iZ bG ho4';go_wp2_with fail;go_loopw [15] (λi wr=>∃ k:Nat,i=.int .i64 (k:Int)/\k<=l.length/\wr.ownsRow w.heap.size 2 1 (.slice (some ⟨w.heap.size,0,none⟩) l.length l.length) l.length (dD (.int .i64 0) (aL D) k)/\Below w.heap.size w wr) (λi _=>l.length-(intOf i).toNat)
 case atStart=>exact⟨0,rfl,by omega,eY.o,cp.o⟩
 case round =>
  obtain⟨k,rfl,hk,how,az⟩:=hrel;have HB:=ae az;have HO:=ae how;have bH:=az.size;clear az how;by_cases aB:k<l.length
  ·have hkD:k<(aL D).length:=by rw[cy,kY.o];exact aB
   have hval:(aL D)[k]=.int .i64 (plT u l[k]:Nat):=by
    have:=QF.o k aB;rw[List.getElem?_eq_getElem hkD]at this;exact Option.some.inj this
   obtain⟨b,off,rfl,hb,dN⟩:=(HS.o.kept HB.o).at1 (cO aB);have hmem:=HM.o l[k] (jeo aB);have HSr:=ae (Fe (HU.o.kept HB.o) vK HR.o HUB.o hmem);have hplt:=(lj hmem).1;have jH:k<(dD (.int .i64 0) (aL D) k).length:=by rw[iF (by omega)];exact hkD
   have tT:=ae (ms (z:=.int .i64 0) hkD);rw[hval]at tT;rw[dM]at dN;clear hval hmem;generalize am l[k]=S at *;generalize plT u l[k]=pz at *;generalize hy:(dD (.int .i64 0) (aL D) k)[k]=y;have hyy:=List.getElem?_eq_getElem jH;rw[hy]at hyy;clear hy;go_wp2_with fail;refine HSr.o.mono ?_;rintro e w5 ⟨⟨r,rfl⟩,bD⟩;have fD:=bJ HO.o bD;have aQ:=ae (HB.o.trans (bD.mono bH));have Gn:=(fD.cellAt k (by omega)).trans hyy;have Gp:=fD.frozenAt k;have hST:=fD.stored k (.int .i64 (pz:Nat));rw[tT.o]at hST;have cP:=ae hST;have Mx:=(fD.lt w.heap.size rfl).2;clear hST bD fD;go_wp2_with fail;go_roundw
   case rel=>exact⟨k+1,by go_num,by omega,cP.o.1,cT aQ.o (jek _) _⟩
   case measure=>simp[intOf];omega
  ·obtain rfl:k=l.length:=by omega
   have e:dD (.int .i64 0) (aL D) l.length=aL D:=by
    have:=pg (.int .i64 0) (aL D);rwa[cy,kY.o]at this
   rw[e]at HO
   have HO':jgf (bF wr w.heap.size (.slice (some ⟨w.heap.size,0,none⟩) l.length l.length) D):=ae (by
    unfold bF;rw[kY.o];exact HO.o)
   clear HO e;go_wp2_with fail;go_ret
   exact⟨⟨_,rfl,HO'.o⟩,HB.o⟩
theorem eM{W W':World}{B p:Nat}{x:Value}(h:W.cell? ⟨p,0,none⟩=some x)(hb:Below B W W')(hp:p<B):W'.cell? ⟨p,0,none⟩=some x:=(hb.cell (p:=⟨p,0,none⟩) hp).trans h
theorem ol{l:List (List Nat)}(ht:Ts l)(hl:l.length<=256):(fH l).length<=21525:=(sZ ht hl).1
theorem yS{w:World}{g p:Nat}{v vl:Value}{l:List (List Nat)}(hg:Gs w g v [])(hp:p<g)(hc:w.cell? ⟨p,0,none⟩=some vl)(hs:Sv w vl (cC l))(gl:∀ k,vl.ownBlock=some k->k<g)(hl:l.length<=256)(ht:Ts l) :
  Calls Tryz.prog 205 #[.func (.func 168) #[] #[.pointer (some ⟨g,0,none⟩)],.pointer (some ⟨p,0,none⟩)] w (jC w g (plain l)):=by
 have HG:=ae hg;have CZ:=hg.lt;have HC:=ae hc;have HS:=ae hs;have sE:=ae gl;have HT:=ae ht;have Dj:=ae (fo (hg.kept (ak w (.cells #[.int .u8 0] 5))) (cH w 0).sv (by simp));have cK:(w.alloc (.cells #[.int .u8 0] 5)).heap.size=w.heap.size+1:=jel _ _;clear hg hc hs gl ht;go_enter Tryz.func205,Tryz.ntmps205
 go_wp2_with fail;refine Dj.o.mono ?_;rintro e w1 ⟨rfl,⟨v1,eZ⟩,aH,_⟩;have aP:=ae (((ak w (.cells #[.int .u8 0] 5)).mono (jeJ CZ)).trans aH);have lK:=eM HC.o aP.o hp;have Gj:=ae (uD eZ (by simp) (HS.o.keptB sE.o aP.o) sE.o hl HT.o);obtain⟨a,cap,rfl,_,_⟩:=HS.o.form1;clear eZ aH;go_wp2_with fail;refine Gj.o.mono ?_;rintro e w2 ⟨rfl,⟨v2,gY⟩,aE⟩;have Ld:=ae gY;have aN:=ae (aP.o.trans aE);clear gY aE;go_wp2_with fail;go_end0
 exact⟨rfl,⟨_,Ld.o⟩,aN.o⟩
theorem Cf{w:World}{vl:Value}{l:List (List Nat)}(hs:Sv w vl (cC l))(gl:∀ k,vl.ownBlock=some k->k<w.heap.size)(hl:l.length<=256)(ht:Ts l) :
  Calls Tryz.prog 172 #[vl] w (dA w (plain l)):=by
 obtain⟨a,cap,rfl,_,_⟩:=hs.form1
 have HGA:=ae (Uc (w:=w.alloc (.cells #[.slice a (cC l).length cap] 144)) (p:=.pointer (some ⟨w.heap.size,0,none⟩)) (bs:=plain l) (λW hg hb=>by
  have hz:=jel w (.cells #[.slice a (cC l).length cap] 144);refine yS hg (by omega) ?_ ((hs.kept (ak w _)).kept hb) (λk hk=>by have:=gl k hk;omega) hl ht;rw[hb.cell (p:=⟨w.heap.size,0,none⟩) (by show w.heap.size<_;omega)];exact aK _ _ _))
 have HB:=ae (ak w (.cells #[.slice a (cC l).length cap] 144));have hz:=jel w (.cells #[.slice a (cC l).length cap] 144);clear hs gl ht;generalize plain l=bs at *;generalize (cC l).length=n at *;go_enter Tryz.func172,Tryz.ntmps172
 go_wp2_with fail;refine HGA.o.mono ?_;rintro e w1 ⟨⟨v1,rfl,ei⟩,aH⟩;have eO:=ae (ei.low (B:=w.heap.size) (by omega));have aP:=ae (HB.o.trans (aH.mono (by omega)));clear ei aH;go_wp2_with fail;go_ret
 exact⟨⟨_,rfl,eO.o⟩,aP.o⟩
theorem yT{w:World}{g p q:Nat}{v vl vu:Value}{l:List (List Nat)}(hg:Gs w g v [])(hp:p<g)(hq:q<g)(Zg:w.cell? ⟨q,0,none⟩=some vu)(eX:w.cell? ⟨p,0,none⟩=some vl)
  (hs:Sv w vl (cC l)) (gl:∀ k,vl.ownBlock=some k->k<g) (hu:Sv w vu (cC (tuq l))) (jat:∀ k,vu.ownBlock=some k->k<g) (hl:l.length<=256) (ht:Ts l) :
  Calls Tryz.prog 210 #[.func (.func 168) #[] #[.pointer (some ⟨g,0,none⟩)],.pointer (some ⟨q,0,none⟩),.pointer (some ⟨p,0,none⟩)] w (jC w g (dt l)):=by
 have CZ:=hg.lt;have HCU:=ae Zg;have pQ:=ae eX;have HS:=ae hs;have HU:=ae hu;have sE:=ae gl;have VM:=ae jat;have HT:=ae ht;have vK:(tuq l).length<=256:=by have:=fO l;omega
 have htxl:=ol (lG ht) vK;have fK:=gL (en hl) (by rw[bY];exact hl);have sD:jgf (dt l=1::(uv (tuq l).length++(fH (tuq l)++cV (cN l)))):=rfl;have nB:=bO (n:=(tuq l).length) (by omega);have Dj:=ae (fo (hg.kept (ak w (.cells #[.int .u8 1] 5))) (cH w 1).sv (by simp));have cK:(w.alloc (.cells #[.int .u8 1] 5)).heap.size=w.heap.size+1:=jel _ _;obtain⟨a,cap,rfl,_,_⟩:=hs.form1;obtain⟨au,capu,rfl,_,_⟩:=hu.form1;rw[dP]at *;have HPU:=ae (dQ (tuq l).length (by omega));clear hg eX hs gl ht hu jat;go_enter Tryz.func210,Tryz.ntmps210
 go_wp2_with fail;refine Dj.o.mono ?_;rintro e w1 ⟨rfl,⟨v1,eZ⟩,aH,_⟩;have aP:=ae (((ak w (.cells #[.int .u8 1] 5)).mono (jeJ CZ)).trans aH);have tX:=ae eZ;have VN:=eM HCU.o aP.o hq;clear eZ aH Zg;go_wp2_with fail;refine(HPU.o _).mono ?_;rintro e w2 ⟨⟨v2,rfl,ft⟩,aE⟩;have Gj:=ae (fo (tX.o.kept aE) ft.sv (by simp;omega));have aN:=ae (aP.o.trans (aE.mono (jeJ tX.o.lt)));clear ft aE VN;go_wp2_with fail;refine Gj.o.mono ?_;rintro e w3 ⟨rfl,⟨v3,hg3⟩,aS,_⟩;have bN:=ae (aN.o.trans aS);have hcu3:=eM HCU.o bN.o hq;have Ln:=ae (uD hg3 (by simp;omega) (HU.o.keptB VM.o bN.o) VM.o vK (lG HT.o));clear hg3 aS;go_wp2_with fail;refine Ln.o.mono ?_;rintro e w4 ⟨rfl,⟨v4,iZ⟩,bG⟩;have cp:=ae (bN.o.trans bG);have WR:=ae iZ;have hcu4:=eM HCU.o cp.o hq;have hcl4:=eM pQ.o cp.o hp;have HP4:=ae (Ff (HU.o.keptB VM.o cp.o) (HS.o.keptB sE.o cp.o) hl vK (wV l) (λs hs=>(lG HT.o s hs).2) (λx hx=>jr.2 hx));clear iZ bG hcu3;go_wp2_with fail;refine HP4.o.mono ?_;rintro e w5 ⟨⟨v5,rfl,fD⟩,bD⟩;have hG5:=WR.o.kept bD;have QE:=ae hG5;have aQ:=ae (cp.o.trans (bD.mono (jeJ WR.o.lt)));have HP5:=ae (tv (l:=cN l) fD.sv (by rw[bY];exact hl) (en hl));clear fD bD hcu4 hcl4 hG5;go_wp2_with fail;refine HP5.o.mono ?_;rintro e w6 ⟨⟨v6,rfl,AU⟩,dW⟩;have HP6:=ae (fo (QE.o.kept dW) AU.sv (by simp;omega));have gW:=ae (aQ.o.trans (dW.mono (jeJ QE.o.lt)));clear AU dW;go_wp2_with fail;refine HP6.o.mono ?_;rintro e w7 ⟨rfl,⟨v7,hg7⟩,iR,_⟩
 have HG7:jgf (Gs w7 g v7 (dt l)):=ae (by
  rw[sD.o];simpa [jez]using hg7)
 have ir:=ae (gW.o.trans iR);clear hg7 iR;go_wp2_with fail;go_end0
 exact⟨rfl,⟨_,HG7.o⟩,ir.o⟩
theorem xN{W:World}{p T:Nat}{c:Array Value}(h:W.heap[p]?=some (.cells c T (0,0)))(hc:0<c.size):W.cell? ⟨p,0,none⟩=some c[0]/\W.frozen? ⟨p,0,none⟩=false :=
 ⟨by rw[ay h];simp[hc],by simp[World.frozen?,h]⟩
theorem JU{w:World}{B e size n q i:Nat}{v x:Value}{xs:List Value}(h:w.ownsRow B e size v n xs)(hq:∀ k,v.ownBlock=some k->k≠q):(w.setCell ⟨q,i,none⟩ x).ownsRow B e size v n xs:=by
 obtain⟨h0,h | ⟨g,cap,cur,rfl,h2,h3,h4⟩⟩:=h
 ·exact⟨h0,Or.inl h⟩
 ·exact⟨h0,Or.inr ⟨g,cap,cur,rfl,h2,(Below.heap_setCell _ _ _ _ (hq g rfl)).trans h3,h4⟩⟩
theorem Fg{w:World}{B e n q T:Nat}{v:Value}{xs:List Value}{c:Array Value}(h:w.ownsRow B e 1 v n xs)(hq:w.heap[q]?=some (.cells c T (0,0)))(hT:T≠e):∀ k,v.ownBlock=some k->k≠q:=by
 intro k hk e1;subst e1;obtain⟨h0,⟨rfl,_⟩ | ⟨g,cap,cur,rfl,h2,h3,h4⟩⟩:=h
 ·cases hk
 ·cases hk
  rw[hq]at h3;cases h3
  exact hT rfl
theorem Cg{w:World}{vl:Value}{l:List (List Nat)}(hs:Sv w vl (cC l))(gl:∀ k,vl.ownBlock=some k->k<w.heap.size)(hl:l.length<=256)(ht:Ts l) :
  Calls Tryz.prog 173 #[vl] w (dA w (dt l)):=by
 obtain⟨a,cap,rfl,_,_⟩:=hs.form1;have HS:=ae hs;have sE:=ae gl;have HT:=ae ht;rw[dP]at *;have mz:=ae (ak w (.cells #[.slice a l.length cap] 144));have Zh:=jel w (.cells #[.slice a l.length cap] 144);have HCX:=ae (aK w (.slice a l.length cap) 144);have pQ:=ae (JT (hs.kept mz.o) hl);clear hs gl ht;go_enter Tryz.func173,Tryz.ntmps173
 go_wp2_with fail;refine pQ.o.mono ?_;rintro e w1 ⟨⟨v1,rfl,ei⟩,aH⟩;have eO:=ae ei;have aP:=ae aH;have cK:=aH.size;obtain⟨a1,c1,rfl,_,_⟩:=aO ei;have CI:jgf ((w1.alloc (.cells #[.slice a1 l.length c1] 144)).heap[w1.heap.size]?=some (.cells #[.slice a1 l.length c1] 144 (0,0))):=ae (jeK _ _);have bv:=jel w1 (.cells #[.slice a1 l.length c1] 144);have hO2:=eO.o.kept (ak w1 (.cells #[.slice a1 l.length c1] 144));have dz:=ae hO2;have aE:=aP.o.trans ((ak w1 (.cells #[.slice a1 l.length c1] 144)).mono cK);have aN:=ae aE;have hlu:(upT l).length=l.length:=tD l
 have hS2:(w1.alloc (.cells #[.slice a1 l.length c1] 144)).ownsRow (w.alloc (.cells #[.slice a l.length cap] 144)).heap.size 9 1 (.slice a1 l.length c1) (upT l).length ((upT l).map encStr):=by
  rw[hlu,← Fb];exact hO2
 have HSO:=ae (Ps hS2 (by omega) (by omega));clear ei aH hO2 aE hS2 hlu;go_wp2_with fail;refine HSO.o.mono ?_;rintro e w3 ⟨rfl,fW,aS,MF⟩;have hlu:(upT l).length=l.length:=tD l;have zm:∀ k,(Value.slice a1 l.length c1).ownBlock=some k->k<w1.heap.size:=λk hk=>(eO.o.lt k hk).2
 have MD:w3.heap[w1.heap.size]?=some (.cells #[.slice a1 l.length c1] 144 (0,0)):=(MF w1.heap.size (by omega) (λe=>by have:=zm _ e;omega)).trans CI.o;have HQ3:=ae MD;obtain⟨Lk,iJ⟩:=xN MD (by simp);have iN:=aS.size;have bN:=ae (aN.o.trans aS);have hls:(qs (upT l)).length=l.length:=by rw[lv];exact hlu
 have ho3':w3.ownsRow (w.alloc (.cells #[.slice a l.length cap] 144)).heap.size 9 1 (.slice a1 l.length c1) (qs (upT l)).length ((qs (upT l)).map encStr):=by
  rw[lv];exact fW
 have HCO:=ae (Ce ho3' (by omega) (by omega));rw[JS (λs hs=>(HT.o s hs).2),← Fb,tD]at HCO;simp only[List.getElem_toArray,jfZ]at Lk;clear fW ho3' aS MF MD hls hlu;go_wp2_with fail;refine HCO.o.mono ?_;rintro e w4 ⟨⟨v4,rfl,gQ⟩,bG,hk4⟩;have hq4:w4.heap[w1.heap.size]?=some (.cells #[.slice a1 l.length c1] 144 (0,0)):=(hk4 w1.heap.size (by omega) (λe=>by have:=zm _ e;omega)).trans HQ3.o;obtain⟨hc4,pT⟩:=xN hq4 (by simp);simp only[List.getElem_toArray,jfZ]at hc4;have KR:=bG.size;have cp:=ae (bN.o.trans bG);obtain⟨a4,c4,rfl,_,_⟩:=aO gQ;have jcy:=Fg gQ hq4 (by decide);have hO5:=JU (i:=0) (x:=.slice a4 (tuq l).length c4) gQ jcy;have hq5:=cU hq4 0 (.slice a4 (tuq l).length c4);have aQ:=ae (cp.o.setCell (p:=⟨w1.heap.size,0,none⟩) (by show _<=w1.heap.size;omega) (.slice a4 (tuq l).length c4));have tU:(w4.setCell ⟨w1.heap.size,0,none⟩ (.slice a4 (tuq l).length c4)).heap.size=w4.heap.size:=World.size_setCell _ _ _
 have HGA:=ae (Ud (w:=w4.setCell ⟨w1.heap.size,0,none⟩ (.slice a4 (tuq l).length c4)) (p:=.pointer (some ⟨w1.heap.size,0,none⟩)) (q:=.pointer (some ⟨w.heap.size,0,none⟩)) (bs:=dt l) (λW hg hb=>by
  have fK:Below (w.alloc (.cells #[.slice a l.length cap] 144)).heap.size (w.alloc (.cells #[.slice a l.length cap] 144)) W:=aQ.o.trans (hb.mono (by omega));have lC:Below w.heap.size w W:=mz.o.trans (fK.mono (by omega));refine yT (vu:=.slice a4 (tuq l).length c4) hg (by omega) (by omega) ?_ ?_ (HS.o.kept lC) (λk hk=>by have:=sE.o k hk;omega) ?_ (λk hk=>?_) hl HT.o
  ·rw[hb.cell (p:=⟨w1.heap.size,0,none⟩) (by show w1.heap.size<_;omega),ay hq5]
   rfl
  ·rw[fK.cell (p:=⟨w.heap.size,0,none⟩) (by show w.heap.size<_;omega)]
   exact HCX.o
  ·exact(Sv.of_own hO5).kept hb
  ·have:=(hO5.lt k hk).2
   omega))
 clear gQ bG hk4 hq4 jcy hO5 hq5;generalize dt l=bs at *;generalize tuq l=ul at *;go_wp2_with fail;refine HGA.o.mono ?_;rintro e w6 ⟨⟨v6,rfl,AU⟩,dW⟩;have my:=ae (AU.low (B:=w.heap.size) (by omega));have gW:=ae (mz.o.trans ((aQ.o.trans (dW.mono (by omega))).mono (by omega)));clear AU dW;go_wp2_with fail;go_ret
 exact⟨⟨_,rfl,my.o⟩,gW.o⟩
theorem yU{w:World}{vl:Value}{l:List (List Nat)}(hs:Sv w vl (cC l))(gl:∀ k,vl.ownBlock=some k->k<w.heap.size)(hl:l.length<=256)(ht:Ts l) :
  Calls Tryz.prog 130 #[vl] w (dA w (eS l)):=by
 have HE:=ae (Cf hs gl hl ht);have HP:=ae (λ(W:World) (hb:Below w.heap.size w W)=>Cg (hs.kept hb) (λk hk=>jeH (gl k hk) hb.size) hl ht);have HW:jgf (eS l=if (dt l).length<(plain l).length then dt l else plain l):=rfl;clear hs gl ht;generalize eS l=wb at *;generalize dt l=bl at *;generalize plain l=bp at *;go_enter Tryz.func130,Tryz.ntmps130
 go_wp2_with fail;refine HE.o.mono ?_;rintro e w1 ⟨⟨v1,rfl,ei⟩,aH⟩;have eO:=ae ei;have aP:=ae aH;have cK:=aH.size;obtain⟨a1,c1,rfl⟩:=ei.len;clear ei aH;go_wp2_with fail;refine(HP.o _ aP.o).mono ?_;rintro e w2 ⟨⟨v2,rfl,ft⟩,aE⟩;have HO1':=ae (eO.o.kept aE);have dz:=ae (ft.low cK);have aN:=ae (aP.o.trans (aE.mono cK));obtain⟨a2,c2,rfl⟩:=ft.len;clear ft aE;by_cases h:bl.length<bp.length
 ·have h':(bl.length:Int)<(bp.length:Int):=by omega
  rw[jei h]at HW;clear h;go_wp2_with fail;go_ret
  rw[HW.o];exact⟨⟨_,rfl,dz.o⟩,aN.o⟩
 ·have h':¬ (bl.length:Int)<(bp.length:Int):=by omega
  rw[jeh h]at HW;clear h;go_wp2_with fail;go_ret
  rw[HW.o];exact⟨⟨_,rfl,HO1'.o⟩,aN.o⟩
end Go.Proofs.YtpljdjmpamjkhaaGreatDoor

import Derived.Test.YtpljdjmpamjkhaaGreatDoorYal
import Derived.Test.YtpljdjmpamjkhaaGreatDoorYab
import Derived.Test.YtpljdjmpamjkhaaGreatDoorYac
import Derived.Test.YtpljdjmpamjkhaaGreatDoorYao
import Derived.Test.YtpljdjmpamjkhaaGreatDoorYai
import Derived.Test.YtpljdjmpamjkhaaGreatDoorYam
import Derived.Deep.Slices
set_option linter.unusedVariables false
set_option linter.unusedSimpArgs false
set_option maxRecDepth 100000
set_option maxHeartbeats 4000000
namespace Go.Proofs.YtpljdjmpamjkhaaGreatDoor
open Go.RowKit Go.Lib
def bst(l:List Int):Nat->List Nat
 | 0=>[]
 | k+1=>ju l k
def De(l:List Int):List Nat:=if l.length<=256 then ju l 4 else []
theorem cD(w:World)(x:Nat):aC (w.alloc (.cells #[.int .u8 (x:Int)] 5)) w.heap.size (.slice (some ⟨w.heap.size,0,none⟩) 1 1) [x] :=
 jaT w #[.int .u8 (x:Int)] 1 (ZR _) (by unfold maxLen;omega) rfl
theorem Ld(l:List Int):bst l 1=[0]++ge l:=rfl
theorem Le(l:List Int):bst l 2=if (iC 0 l).length+1<(bst l 1).length then [1]++iC 0 l else bst l 1:=rfl
theorem Lf(l:List Int):bst l 3=if (ik l).length+1<(bst l 2).length then [2]++ik l else bst l 2:=rfl
theorem Lg(l:List Int):bst l 4=if (py l).length+1<(bst l 3).length then [3]++py l else bst l 3:=rfl
theorem Lh(l:List Int):bst l 5=if (lG l).length+1<(bst l 4).length then [4]++lG l else bst l 4:=rfl
theorem P5{w:World}{v:Value}{l:List Int}(hs:Sv w v (aJ l))(hl:l.length<=256)(hi:Is l) :
  Calls Tryz.prog 170 #[v] w fun e w'=>(∃ v',e=.returned (.tuple #[v',.bool true])/\aC w' w.heap.size v' (ju l 4))/\Below w.heap.size w w':=by
 have HS:=ae hs;have HI:=ae hi;obtain⟨a,cap,rfl,aX,bw⟩:=hs.form;have uF:¬ (l.length:Int) > 256:=by omega
 have rz:Hid (∀ k,(bst l k).length<=5131):=by
  intro k;cases k with
  | zero=>simp[bst]
  | succ k =>
   obtain⟨c,_,e⟩:=jh l k;rw[bst,e];have:=(eA c hi hl).1;simp
   omega
 have i0:∀ w,(Instr.index 246 (.agg #[.func (.func 226) #[] #[],.func (.func 227) #[] #[],.func (.func 228) #[] #[],.func (.func 229) #[] #[],.func (.func 230) #[] #[]]) (.int .i64 0)).run Tryz.prog w=.ok (.func (.func 226) #[] #[]) w:=fun _=>by kernel_rfl
 have hz_0:=(eA 0 hi hl).1;have XH:Hid (∀ W,Sv W (.slice a l.length cap) (aJ l)->Calls Tryz.prog 226 #[.slice a l.length cap] W (du W (ge l))):=fun W h=>tg h hl HI.out
 have i1:∀ w,(Instr.index 246 (.agg #[.func (.func 226) #[] #[],.func (.func 227) #[] #[],.func (.func 228) #[] #[],.func (.func 229) #[] #[],.func (.func 230) #[] #[]]) (.int .i64 1)).run Tryz.prog w=.ok (.func (.func 227) #[] #[]) w:=fun _=>by kernel_rfl
 have hz_1:=(eA 1 hi hl).1;have BM:Hid (∀ W,Sv W (.slice a l.length cap) (aJ l)->Calls Tryz.prog 227 #[.slice a l.length cap] W (du W (iC 0 l))):=fun W h=>qF h hl HI.out
 have i2:∀ w,(Instr.index 246 (.agg #[.func (.func 226) #[] #[],.func (.func 227) #[] #[],.func (.func 228) #[] #[],.func (.func 229) #[] #[],.func (.func 230) #[] #[]]) (.int .i64 2)).run Tryz.prog w=.ok (.func (.func 228) #[] #[]) w:=fun _=>by kernel_rfl
 have hz_2:=(eA 2 hi hl).1;have En:Hid (∀ W,Sv W (.slice a l.length cap) (aJ l)->Calls Tryz.prog 228 #[.slice a l.length cap] W (du W (ik l))):=fun W h=>tj h hl HI.out
 have i3:∀ w,(Instr.index 246 (.agg #[.func (.func 226) #[] #[],.func (.func 227) #[] #[],.func (.func 228) #[] #[],.func (.func 229) #[] #[],.func (.func 230) #[] #[]]) (.int .i64 3)).run Tryz.prog w=.ok (.func (.func 229) #[] #[]) w:=fun _=>by kernel_rfl
 have hz_3:=(eA 3 hi hl).1;have Hz:Hid (∀ W,Sv W (.slice a l.length cap) (aJ l)->Calls Tryz.prog 229 #[.slice a l.length cap] W (du W (py l))):=fun W h=>oS h hl HI.out
 have i4:∀ w,(Instr.index 246 (.agg #[.func (.func 226) #[] #[],.func (.func 227) #[] #[],.func (.func 228) #[] #[],.func (.func 229) #[] #[],.func (.func 230) #[] #[]]) (.int .i64 4)).run Tryz.prog w=.ok (.func (.func 230) #[] #[]) w:=fun _=>by kernel_rfl
 have hz_4:=(eA 4 hi hl).1;have XO:Hid (∀ W,Sv W (.slice a l.length cap) (aJ l)->Calls Tryz.prog 230 #[.slice a l.length cap] W (du W (lG l))):=fun W h=>np h hl HI.out
 clear hs aX bw hi;go_enter Tryz.func170,Tryz.ntmps170
 go_wp2_with fail;refine(fS _).mono ?_;rintro e w1 ⟨rfl,aG⟩;have aQ:=ae aG;have cW:=aG.size;clear aG;go_wp2_with fail;go_loopw [4,12] (fun b i wr=>∃ k:Nat,k<=5/\i=.int .i64 (k:Int)/\aC wr w.heap.size b (bst l k)/\Below w.heap.size w wr) (fun _ i _=>5-(intOf i).toNat)
 case atStart=>exact⟨0,by omega,rfl,aC.nil _ _,aQ.out⟩
 case round =>
  obtain⟨k,hk,rfl,az,ay⟩:=hrel;have HO:=ae az;have HB:=ae ay;have bO:=ay.size;obtain⟨ab,cb,rfl⟩:=az.len;have fM:=rz.out k;clear az ay;obtain rfl | rfl | rfl | rfl | rfl | rfl:k=0∨k=1∨k=2∨k=3∨k=4∨k=5:=by omega
  ·have HT:=ae (Ld l)
   have SX:=ae (HS.out.kept (HB.out.alloc bO (.cells #[.int .u8 0] 5)));have mW:=ae (cD wr 0);have eW:=ae ((ZQ wr.heap.size wr).alloc (ZR _) (.cells #[.int .u8 0] 5));have zN:(ge l).length<=5130:=hz_0;clear hz_0 hz_1 hz_2 hz_3 hz_4;generalize bst l 0=B0 at *;generalize ge l=EC at *;go_wp2_with fail;refine(XH.out _ SX.out).mono ?_;rintro e w3 ⟨⟨v3,rfl,fN⟩,aP⟩;have cX:=ae fN;have RC:=ae (mW.out.kept aP);have bM:=ae (eW.out.trans (aP.mono (by simp)));have iB:=aP.size;rw[ZS]at iB;clear fN aP;go_wp2_with (first | (at_builtin;refine ar rfl _ _ rfl wr.heap.size _ _ [0] EC rfl RC.out rfl cX.out.sv ?c1 ?c2 ?_))
   case c1=>simp;omega
   case c2=>omega
   intro v4 w4 o4 b4;have eP:=ae (o4.low bO);have b9:=ae (bM.out.trans b4);have fZ:=ae (HB.out.trans (b9.out.mono bO));have zM:=ae (HO.out.kept b9.out);obtain⟨a4,c4,rfl⟩:=o4.len;clear o4 b4;go_wp2_with fail;go_roundw
   case rel=>exact⟨1,by omega,by go_num,by rw[HT.out];exact eP.out,fZ.out⟩
   case measure=>simp[intOf]
  ·have HT:=ae (Le l)
   have SX:=ae (HS.out.kept (HB.out.alloc bO (.cells #[.int .u8 1] 5)));have mW:=ae (cD wr 1);have eW:=ae ((ZQ wr.heap.size wr).alloc (ZR _) (.cells #[.int .u8 1] 5));have zN:(iC 0 l).length<=5130:=hz_1;clear hz_0 hz_1 hz_2 hz_3 hz_4;generalize bst l 1=B0 at *;generalize iC 0 l=EC at *;go_wp2_with fail;refine(BM.out _ SX.out).mono ?_;rintro e w3 ⟨⟨v3,rfl,fN⟩,aP⟩;have cX:=ae fN;have RC:=ae (mW.out.kept aP);have bM:=ae (eW.out.trans (aP.mono (by simp)));have iB:=aP.size;rw[ZS]at iB;clear fN aP;go_wp2_with (first | (at_builtin;refine ar rfl _ _ rfl wr.heap.size _ _ [1] EC rfl RC.out rfl cX.out.sv ?c1 ?c2 ?_))
   case c1=>simp;omega
   case c2=>omega
   intro v4 w4 o4 b4;have eP:=ae (o4.low bO);have b9:=ae (bM.out.trans b4);have fZ:=ae (HB.out.trans (b9.out.mono bO));have zM:=ae (HO.out.kept b9.out);obtain⟨a4,c4,rfl⟩:=o4.len;clear o4 b4;by_cases aB:EC.length+1<B0.length
   ·rw[if_pos aB]at HT
    have BA:(EC.length:Int)+1<(B0.length:Int):=by omega
    clear aB;go_wp2_with fail;go_roundw
    case rel=>exact⟨2,by omega,by go_num,by rw[HT.out];exact eP.out,fZ.out⟩
    case measure=>simp[intOf]
   ·rw[if_neg aB]at HT
    have BA:¬ (EC.length:Int)+1<(B0.length:Int):=by omega
    clear aB;go_wp2_with fail;go_roundw
    case rel=>exact⟨2,by omega,by go_num,by rw[HT.out];exact zM.out,fZ.out⟩
    case measure=>simp[intOf]
  ·have HT:=ae (Lf l)
   have SX:=ae (HS.out.kept (HB.out.alloc bO (.cells #[.int .u8 2] 5)));have mW:=ae (cD wr 2);have eW:=ae ((ZQ wr.heap.size wr).alloc (ZR _) (.cells #[.int .u8 2] 5));have zN:(ik l).length<=5130:=hz_2;clear hz_0 hz_1 hz_2 hz_3 hz_4;generalize bst l 2=B0 at *;generalize ik l=EC at *;go_wp2_with fail;refine(En.out _ SX.out).mono ?_;rintro e w3 ⟨⟨v3,rfl,fN⟩,aP⟩;have cX:=ae fN;have RC:=ae (mW.out.kept aP);have bM:=ae (eW.out.trans (aP.mono (by simp)));have iB:=aP.size;rw[ZS]at iB;clear fN aP;go_wp2_with (first | (at_builtin;refine ar rfl _ _ rfl wr.heap.size _ _ [2] EC rfl RC.out rfl cX.out.sv ?c1 ?c2 ?_))
   case c1=>simp;omega
   case c2=>omega
   intro v4 w4 o4 b4;have eP:=ae (o4.low bO);have b9:=ae (bM.out.trans b4);have fZ:=ae (HB.out.trans (b9.out.mono bO));have zM:=ae (HO.out.kept b9.out);obtain⟨a4,c4,rfl⟩:=o4.len;clear o4 b4;by_cases aB:EC.length+1<B0.length
   ·rw[if_pos aB]at HT
    have BA:(EC.length:Int)+1<(B0.length:Int):=by omega
    clear aB;go_wp2_with fail;go_roundw
    case rel=>exact⟨3,by omega,by go_num,by rw[HT.out];exact eP.out,fZ.out⟩
    case measure=>simp[intOf]
   ·rw[if_neg aB]at HT
    have BA:¬ (EC.length:Int)+1<(B0.length:Int):=by omega
    clear aB;go_wp2_with fail;go_roundw
    case rel=>exact⟨3,by omega,by go_num,by rw[HT.out];exact zM.out,fZ.out⟩
    case measure=>simp[intOf]
  ·have HT:=ae (Lg l)
   have SX:=ae (HS.out.kept (HB.out.alloc bO (.cells #[.int .u8 3] 5)));have mW:=ae (cD wr 3);have eW:=ae ((ZQ wr.heap.size wr).alloc (ZR _) (.cells #[.int .u8 3] 5));have zN:(py l).length<=5130:=hz_3;clear hz_0 hz_1 hz_2 hz_3 hz_4;generalize bst l 3=B0 at *;generalize py l=EC at *;go_wp2_with fail;refine(Hz.out _ SX.out).mono ?_;rintro e w3 ⟨⟨v3,rfl,fN⟩,aP⟩;have cX:=ae fN;have RC:=ae (mW.out.kept aP);have bM:=ae (eW.out.trans (aP.mono (by simp)));have iB:=aP.size;rw[ZS]at iB;clear fN aP;go_wp2_with (first | (at_builtin;refine ar rfl _ _ rfl wr.heap.size _ _ [3] EC rfl RC.out rfl cX.out.sv ?c1 ?c2 ?_))
   case c1=>simp;omega
   case c2=>omega
   intro v4 w4 o4 b4;have eP:=ae (o4.low bO);have b9:=ae (bM.out.trans b4);have fZ:=ae (HB.out.trans (b9.out.mono bO));have zM:=ae (HO.out.kept b9.out);obtain⟨a4,c4,rfl⟩:=o4.len;clear o4 b4;by_cases aB:EC.length+1<B0.length
   ·rw[if_pos aB]at HT
    have BA:(EC.length:Int)+1<(B0.length:Int):=by omega
    clear aB;go_wp2_with fail;go_roundw
    case rel=>exact⟨4,by omega,by go_num,by rw[HT.out];exact eP.out,fZ.out⟩
    case measure=>simp[intOf]
   ·rw[if_neg aB]at HT
    have BA:¬ (EC.length:Int)+1<(B0.length:Int):=by omega
    clear aB;go_wp2_with fail;go_roundw
    case rel=>exact⟨4,by omega,by go_num,by rw[HT.out];exact zM.out,fZ.out⟩
    case measure=>simp[intOf]
  ·have HT:=ae (Lh l)
   have SX:=ae (HS.out.kept (HB.out.alloc bO (.cells #[.int .u8 4] 5)));have mW:=ae (cD wr 4);have eW:=ae ((ZQ wr.heap.size wr).alloc (ZR _) (.cells #[.int .u8 4] 5));have zN:(lG l).length<=5130:=hz_4;clear hz_0 hz_1 hz_2 hz_3 hz_4;generalize bst l 4=B0 at *;generalize lG l=EC at *;go_wp2_with fail;refine(XO.out _ SX.out).mono ?_;rintro e w3 ⟨⟨v3,rfl,fN⟩,aP⟩;have cX:=ae fN;have RC:=ae (mW.out.kept aP);have bM:=ae (eW.out.trans (aP.mono (by simp)));have iB:=aP.size;rw[ZS]at iB;clear fN aP;go_wp2_with (first | (at_builtin;refine ar rfl _ _ rfl wr.heap.size _ _ [4] EC rfl RC.out rfl cX.out.sv ?c1 ?c2 ?_))
   case c1=>simp;omega
   case c2=>omega
   intro v4 w4 o4 b4;have eP:=ae (o4.low bO);have b9:=ae (bM.out.trans b4);have fZ:=ae (HB.out.trans (b9.out.mono bO));have zM:=ae (HO.out.kept b9.out);obtain⟨a4,c4,rfl⟩:=o4.len;clear o4 b4;by_cases aB:EC.length+1<B0.length
   ·rw[if_pos aB]at HT
    have BA:(EC.length:Int)+1<(B0.length:Int):=by omega
    clear aB;go_wp2_with fail;go_roundw
    case rel=>exact⟨5,by omega,by go_num,by rw[HT.out];exact eP.out,fZ.out⟩
    case measure=>simp[intOf]
   ·rw[if_neg aB]at HT
    have BA:¬ (EC.length:Int)+1<(B0.length:Int):=by omega
    clear aB;go_wp2_with fail;go_roundw
    case rel=>exact⟨5,by omega,by go_num,by rw[HT.out];exact zM.out,fZ.out⟩
    case measure=>simp[intOf]
  ·go_wp2_with fail
   go_ret2
   exact⟨⟨_,rfl,HO.out⟩,HB.out⟩
theorem TP{w:World}{v:Value}{l:List Int}(hs:Sv w v (aJ l))(hl:¬ l.length<=256) :
  Calls Tryz.prog 170 #[v] w fun e w'=>(∃ v',e=.returned (.tuple #[v',.bool false])/\aC w' w.heap.size v' [])/\Below w.heap.size w w':=by
 obtain⟨a,cap,rfl,aX,bw⟩:=hs.form;have hm:l.length<=9223372036854775807:=by unfold maxLen at bw;omega
 have uF:(l.length:Int) > 256:=by omega
 clear hs aX bw hl;go_enter Tryz.func170,Tryz.ntmps170
 go_wp2_with fail;go_ret2
 exact⟨⟨_,rfl,aC.nil _ _⟩,ZQ _ _⟩
theorem P6{w:World}{v:Value}{l:List Int}(hs:Sv w v (aJ l))(hi:Is l) :
  Calls Tryz.prog 170 #[v] w fun e w'=>(∃ v',e=.returned (.tuple #[v',.bool (decide (l.length<=256))])/\aC w' w.heap.size v' (De l))/\Below w.heap.size w w':=by
 unfold De;by_cases h:l.length<=256
 ·rw[decide_eq_true h,if_pos h]
  exact P5 hs h hi
 ·rw[decide_eq_false h,if_neg h]
  exact TP hs h
def cy(l:List (List Nat)):List Value:=l.map txt
theorem dE(l:List (List Nat)):(cy l).length=l.length:=ZU _
theorem oY(a b:List (List Nat)):cy (a++b)=cy a++cy b:=Z8
theorem cJ{l:List (List Nat)}{j:Nat}(h:j<l.length):(cy l)[j]?=some (txt l[j]):=by simp[cy,h]
def eD(W:World)(B:Nat)(v:Value)(l:List (List Nat)):Prop:=W.ownsRow B 9 1 v l.length (cy l)
theorem eD.nil(W:World)(B:Nat):eD W B (.slice none 0 0) []:=jaB _ _ _ _
theorem eD.kept{w w':World}{B:Nat}{v:Value}{l:List (List Nat)}(h:eD w B v l)(hb:Below w.heap.size w w'):eD w' B v l:=bH h hb
theorem eD.sv{W:World}{B:Nat}{v:Value}{l:List (List Nat)}(h:eD W B v l):Sv W v (cy l):=Sv.of_own h
theorem Vv:(Tryz.prog.info? 9).map (fun i=>(i.zero,i.size,i.bytes))=some (some (.string ⟨#[]⟩),1,16):=by kernel_rfl
theorem bW{w:World}{ops:Array Oper}{rest:List Oper}{o:Oper}{a:Act}{Q:Exit->Act->World->Prop}(ee:o.guard=none)(s x:Operand)
  (ho:o.op=.call { callee:=.builtin .append,args:=#[s,x],argTypes:=#[144,144] })
  (base:Nat) (v:Value) (g:Nat) (z:List Nat) (l0:List (List Nat)) (hs:a.eval s=v) (az:eD w base v l0) (hx:a.eval x=.slice (some ⟨g,0,none⟩) 1 1) (hc:w.cell? ⟨g,0,none⟩=some (txt z))
  (hbytes:l0.length<=100000) (aH:base<=w.heap.size)
  (h:∀ v' w',eD w' base v' (l0++[z])->Below base w w'->wpList Tryz.prog ops Q rest (a.put o.dst v') w') :
  wpList Tryz.prog ops Q (o::rest) a w:=by
 obtain⟨i0,hi,ce,hz1',bm⟩:=info_parts Vv;unfold eD at *
 refine wpList_append_own_at (w:=w) ee s x 144 ho base 9 i0 (.string ⟨#[]⟩) 1 16 Tryz.underlying144 hi ce hz1' bm rfl (by decide) v l0.length (cy l0) hs az ⟨g,0,none⟩ 1 1 [txt z] hx rfl ?_ (fun u hu=>by
  have:u=txt z:=by simpa using hu
  subst this;rfl) (by unfold maxLen;omega) (by omega) aH ?_
 ·intro j u hu
  rw[md];cases j with
  | zero =>
   simp only[List.getElem?_cons_zero,Option.some.injEq]at hu;rw[← hu];exact hc
  | succ j=>simp at hu
 ·intro v' w' o1 g1 _ _
  refine h v' w' ?_ ((ZQ base w).grown g1 aH (fun k hk=>(az.lt k hk).1));rw[oY,ZT];exact o1
theorem jT{l:List Int}(hl:l.length<=256):De l=cN l:=if_pos hl
theorem sy{w:World}{v:Value}{l:List Int}(hs:Sv w v (aJ l))(hl:l.length<=256)(hi:Is l):Calls Tryz.prog 126 #[v] w (du w (cN l)):=by
 have HB:=ae (P6 hs hi);rw[jT hl]at HB;clear hs hi;generalize cN l=bs at *;go_enter Tryz.func126,Tryz.ntmps126
 go_wp2_with fail;refine HB.out.mono ?_;rintro e w1 ⟨⟨v1,rfl,eG⟩,aG⟩;have fA:=ae eG;have aQ:=ae aG;clear eG aG;go_wp2_with fail;go_ret
 exact⟨⟨_,rfl,fA.out⟩,aQ.out⟩
theorem zj{w:World}{v:Value}{l:List Nat}(hs:Sv w v (aE .u64 l))(h2:∀ x∈l,x<2):Calls Tryz.prog 128 #[v] w (du w (be l 1)):=by
 have HB:=ae (yM hs.sx (fun x hx=>by have:=h2 x hx;omega) 1);clear hs h2;generalize be l 1=bs at *;generalize can l 1=bb at *;go_enter Tryz.func128,Tryz.ntmps128
 go_wp2_with fail;refine HB.out.mono ?_;rintro e w1 ⟨v1,rfl,eG,aG⟩;have fA:=ae eG;have aQ:=ae aG;clear eG aG;go_wp2_with fail;go_ret
 exact⟨⟨_,rfl,fA.out⟩,aQ.out⟩
theorem wE(b:Bool)(w:World):Calls Tryz.prog 169 #[.bool b] w fun e w'=>e=.returned (.int .u64 (if b then 1 else 0))/\w'=w:=by
 cases b
 all_goals
  go_enter Tryz.func169,Tryz.ntmps169
  go_wp2;go_ret
  exact⟨rfl,rfl⟩
theorem jb(k:Nat)(w:World):Calls Tryz.prog 167 #[.int .u8 (k:Int)] w fun e w'=>e=.returned (.bool (decide (1<=k/\k<=3)))/\w'=w:=by
 by_cases h1:((k:Int)==1)=true
 ·have hk:k=1:=by have:(k:Int)=1:=(by simpa using h1);omega
  subst hk;go_enter Tryz.func167,Tryz.ntmps167
  go_wp2;go_ret
  exact⟨rfl,rfl⟩
 ·by_cases h2:((k:Int)==2)=true
  ·have hk:k=2:=by have:(k:Int)=2:=(by simpa using h2);omega
   subst hk;go_enter Tryz.func167,Tryz.ntmps167
   go_wp2;go_ret
   exact⟨rfl,rfl⟩
  ·by_cases h3:((k:Int)==3)=true
   ·have hk:k=3:=by have:(k:Int)=3:=(by simpa using h3);omega
    subst hk;go_enter Tryz.func167,Tryz.ntmps167
    go_wp2;go_ret
    exact⟨rfl,rfl⟩
   ·have h1':((k:Int)==1)=false:=by simpa using h1
    have h2':((k:Int)==2)=false:=by simpa using h2
    have h3':((k:Int)==3)=false:=by simpa using h3
    have HN:Hid (decide (1<=k/\k<=3)=false):=ae (by
     have a1:(k:Int)≠1:=by simpa using h1
     have a2:(k:Int)≠2:=by simpa using h2
     have a3:(k:Int)≠3:=by simpa using h3
     exact decide_eq_false (by omega))
    rw[HN.out];clear h1 h2 h3;go_enter Tryz.func167,Tryz.ntmps167
    go_wp2;go_ret
    exact⟨rfl,rfl⟩
theorem gh.fine{k:Nat}{c:Nat×Int×List Nat}(h:gh k c):aU c:=by
 rcases h with h | ⟨_,h⟩ | ⟨_,h⟩ | ⟨_,h⟩
 ·exact Or.inl h
 ·exact Or.inr (Or.inl h)
 ·exact Or.inr (Or.inr (Or.inl h))
 ·exact Or.inr (Or.inr (Or.inr h))
theorem aU.cellk{k:Nat}{c:Nat×Int×List Nat}(h:aU c)(hk:c.1=0∨c.1=k):gh k c:=by
 rcases h with h | ⟨n,rfl,h⟩ | ⟨n,rfl,h⟩ | ⟨n,rfl,h⟩
 ·exact Or.inl h
 ·have:k=1:=by simp at hk;omega
  exact Or.inr (Or.inl ⟨this,n,rfl,h⟩)
 ·have:k=2:=by simp at hk;omega
  exact Or.inr (Or.inr (Or.inl ⟨this,n,rfl,h⟩))
 ·have:k=3:=by simp at hk;omega
  exact Or.inr (Or.inr (Or.inr ⟨this,n,rfl,h⟩))
theorem fH{l:List (Nat×Int×List Nat)}{j:Nat}(h:j<l.length):bS (l.take (j+1))=bS (l.take j)++(if l[j].1=0 then [] else [l[j]]):=by
 unfold bS;rw[Z5 h,jbi];congr 1
 by_cases h0:l[j].1=0
 ·simp[h0]
 ·simp[h0]
theorem jc(l:List (Nat×Int×List Nat))(j:Nat):(bS (l.take j)).length<=l.length:=by
 have:=gS (l.take j);rw[ZX]at this;omega
theorem F5{w:World}{v:Value}{l:List (Nat×Int×List Nat)}(hs:Sv w v (aI l))(hl:l.length<=256)(hc:∀ c∈l,gh 1 c) :
  Calls Tryz.prog 127 #[v] w fun e w'=>(∃ v',e=.returned v'/\br w' w.heap.size v' ((bS l).map fun c=>c.2.1))/\Below w.heap.size w w':=by
 have HS:=ae hs;have HC:=ae hc;obtain⟨a,cap,rfl,aX,bw⟩:=hs.form1;rw[aF]at *;have t1:=Ab;have t2:=E1;have hcm':cap<=9223372036854775807:=by unfold maxLen at bw;omega
 clear hs hc bw;go_enter Tryz.func127,Tryz.ntmps127
 go_wp2_with fail;go_loopw [3,10] (fun o i wr=>∃ j:Nat,j<=l.length/\i=.int .i64 (j:Int)/\br wr w.heap.size o ((bS (l.take j)).map fun c=>c.2.1)/\Below w.heap.size w wr) (fun _ i _=>l.length-(intOf i).toNat)
 case atStart=>exact⟨0,by omega,rfl,br.nil _ _,ZQ _ _⟩
 case round =>
  obtain⟨j,hj,rfl,az,ay⟩:=hrel;have HO:=ae az;have HB:=ae ay;have bO:=ay.size;clear az ay;by_cases aB:j<l.length
  ·obtain⟨b,off,rfl,hb,bo⟩:=HS.out.at1 (cK aB)
   have hcell':=(HB.out.cell (p:=⟨b,off+j,none⟩) hb).trans bo;have HT:=ae (fH aB);have bQ:=jc l j;have dP:=HC.out l[j] (ZV aB);have hlt':(j:Int)<(l.length:Int):=by omega
   clear bo;generalize l[j]=c at *;rcases dP with rfl | ⟨_,n,rfl,hn⟩ | ⟨hk,_⟩ | ⟨hk,_⟩
   ·simp only[nul,de,if_true]at hcell'
    have HT':Hid (bS (l.take (j+1))=bS (l.take j)):=ae (by
     have:=HT.out;simpa [nul]using this)
    clear HT;go_wp2_with fail;go_roundw
    case rel=>exact⟨j+1,by omega,by go_num,by rw[HT'.out];exact HO.out,HB.out⟩
    case measure=>simp[intOf];omega
   ·simp only[de]at hcell'
    have HT':Hid ((bS (l.take (j+1))).map (fun c=>c.2.1)=((bS (l.take j)).map fun c=>c.2.1)++[n]):=ae (by
     have:=HT.out;simp only[show (1:Nat)≠0 from by omega,if_false]at this;rw[this,Z8];rfl)
    have hlen':((bS (l.take j)).map fun c=>c.2.1).length<=100000:=by rw[ZU];omega
    clear HT;generalize ((bS (l.take j)).map fun c=>c.2.1)=L at *;go_wp2_with (first | (at_builtin;refine aW rfl _ _ rfl w.heap.size _ _ n L rfl (HO.out.kept (ak _ _)) rfl (aK _ _ _) hlen' ?c2 ?_))
    case c2=>first | omega | (rw[ZS];omega)
    intro v' w2 o2 b2;have dr:=ae o2;have aN:=ae ((HB.out.alloc bO _).trans b2);clear o2 b2;go_wp2_with fail;go_roundw
    case rel=>exact⟨j+1,by omega,by go_num,by rw[HT'.out];exact dr.out,aN.out⟩
    case measure=>simp[intOf];omega
   ·omega
   ·omega
  ·have:j=l.length:=by omega
   subst this;have gJ:¬ ((l.length:Nat):Int)<(l.length:Int):=by omega
   rw[ZY]at HO;go_wp2_with fail;go_ret
   exact⟨⟨_,rfl,HO.out⟩,HB.out⟩
theorem F6{w:World}{v:Value}{l:List (Nat×Int×List Nat)}(hs:Sv w v (aI l))(hl:l.length<=256)(hc:∀ c∈l,gh 3 c) :
  Calls Tryz.prog 131 #[v] w fun e w'=>(∃ v',e=.returned v'/\eD w' w.heap.size v' ((bS l).map fun c=>c.2.2))/\Below w.heap.size w w':=by
 have HS:=ae hs;have HC:=ae hc;obtain⟨a,cap,rfl,aX,bw⟩:=hs.form1;rw[aF]at *;have t1:=Ad;have t2:=E3;have hcm':cap<=9223372036854775807:=by unfold maxLen at bw;omega
 clear hs hc bw;go_enter Tryz.func131,Tryz.ntmps131
 go_wp2_with fail;go_loopw [3,10] (fun o i wr=>∃ j:Nat,j<=l.length/\i=.int .i64 (j:Int)/\eD wr w.heap.size o ((bS (l.take j)).map fun c=>c.2.2)/\Below w.heap.size w wr) (fun _ i _=>l.length-(intOf i).toNat)
 case atStart=>exact⟨0,by omega,rfl,eD.nil _ _,ZQ _ _⟩
 case round =>
  obtain⟨j,hj,rfl,az,ay⟩:=hrel;have HO:=ae az;have HB:=ae ay;have bO:=ay.size;clear az ay;by_cases aB:j<l.length
  ·obtain⟨b,off,rfl,hb,bo⟩:=HS.out.at1 (cK aB)
   have hcell':=(HB.out.cell (p:=⟨b,off+j,none⟩) hb).trans bo;have HT:=ae (fH aB);have bQ:=jc l j;have dP:=HC.out l[j] (ZV aB);have hlt':(j:Int)<(l.length:Int):=by omega
   clear bo;generalize l[j]=c at *;rcases dP with rfl | ⟨hk,_⟩ | ⟨hk,_⟩ | ⟨_,n,rfl,hn⟩
   ·simp only[nul,de,if_true]at hcell'
    have HT':Hid (bS (l.take (j+1))=bS (l.take j)):=ae (by
     have:=HT.out;simpa [nul]using this)
    clear HT;go_wp2_with fail;go_roundw
    case rel=>exact⟨j+1,by omega,by go_num,by rw[HT'.out];exact HO.out,HB.out⟩
    case measure=>simp[intOf];omega
   ·omega
   ·omega
   ·simp only[de,ek,show (3:Nat)≠0 from by omega,show (3:Nat)≠1 from by omega,show (3:Nat)≠2 from by omega,if_false]at hcell'
    have HT':Hid ((bS (l.take (j+1))).map (fun c=>c.2.2)=((bS (l.take j)).map fun c=>c.2.2)++[n]):=ae (by
     have:=HT.out;simp only[show (3:Nat)≠0 from by omega,if_false]at this;rw[this,Z8];rfl)
    have hlen':((bS (l.take j)).map fun c=>c.2.2).length<=100000:=by rw[ZU];omega
    clear HT;generalize ((bS (l.take j)).map fun c=>c.2.2)=L at *;go_wp2_with (first | (at_builtin;refine bW rfl _ _ rfl w.heap.size _ _ n L rfl (HO.out.kept (ak _ _)) rfl (aK _ _ _) hlen' ?c2 ?_))
    case c2=>first | omega | (rw[ZS];omega)
    intro v' w2 o2 b2;have dr:=ae o2;have aN:=ae ((HB.out.alloc bO _).trans b2);clear o2 b2;go_wp2_with fail;go_roundw
    case rel=>exact⟨j+1,by omega,by go_num,by rw[HT'.out];exact dr.out,aN.out⟩
    case measure=>simp[intOf];omega
  ·have:j=l.length:=by omega
   subst this;have gJ:¬ ((l.length:Nat):Int)<(l.length:Int):=by omega
   rw[ZY]at HO;go_wp2_with fail;go_ret
   exact⟨⟨_,rfl,HO.out⟩,HB.out⟩
theorem F7{w:World}{v:Value}{l:List (Nat×Int×List Nat)}(hs:Sv w v (aI l))(hl:l.length<=256)(hc:∀ c∈l,gh 2 c) :
  Calls Tryz.prog 129 #[v] w fun e w'=>(∃ v',e=.returned v'/\dB w' w.heap.size v' ((bS l).map fun c=>c.2.1.toNat))/\Below w.heap.size w w':=by
 have HS:=ae hs;have HC:=ae hc;obtain⟨a,cap,rfl,aX,bw⟩:=hs.form1;rw[aF]at *;have t1:=Ac;have t2:=E2;have hcm':cap<=9223372036854775807:=by unfold maxLen at bw;omega
 clear hs hc bw;go_enter Tryz.func129,Tryz.ntmps129
 go_wp2_with fail;go_loopw [3,10] (fun o i wr=>∃ j:Nat,j<=l.length/\i=.int .i64 (j:Int)/\dB wr w.heap.size o ((bS (l.take j)).map fun c=>c.2.1.toNat)/\Below w.heap.size w wr) (fun _ i _=>l.length-(intOf i).toNat)
 case atStart=>exact⟨0,by omega,rfl,dB.nil _ _,ZQ _ _⟩
 case round =>
  obtain⟨j,hj,rfl,az,ay⟩:=hrel;have HO:=ae az;have HB:=ae ay;have bO:=ay.size;clear az ay;by_cases aB:j<l.length
  ·obtain⟨b,off,rfl,hb,bo⟩:=HS.out.at1 (cK aB)
   have hcell':=(HB.out.cell (p:=⟨b,off+j,none⟩) hb).trans bo;have HT:=ae (fH aB);have bQ:=jc l j;have dP:=HC.out l[j] (ZV aB);have hlt':(j:Int)<(l.length:Int):=by omega
   clear bo;generalize l[j]=c at *;rcases dP with rfl | ⟨hk,_⟩ | ⟨_,n,rfl,hn⟩ | ⟨hk,_⟩
   ·simp only[nul,de,if_true]at hcell'
    have HT':Hid (bS (l.take (j+1))=bS (l.take j)):=ae (by
     have:=HT.out;simpa [nul]using this)
    clear HT;go_wp2_with fail;go_roundw
    case rel=>exact⟨j+1,by omega,by go_num,by rw[HT'.out];exact HO.out,HB.out⟩
    case measure=>simp[intOf];omega
   ·omega
   ·simp only[de,show (2:Nat)≠0 from by omega,show (2:Nat)≠1 from by omega,if_false,if_true]at hcell'
    have Mp:Hid (∀ W:World,Calls Tryz.prog 169 #[.bool (decide ((n:Int)=1))] W fun e w'=>e=.returned (.int .u64 (n:Int))/\w'=W):=ae (fun W=>by
     have:=wE (decide ((n:Int)=1)) W;obtain rfl | rfl:n=0∨n=1:=by omega
     ·exact this
     ·exact this)
    generalize decide ((n:Int)=1)=bb at *
    have HT':Hid ((bS (l.take (j+1))).map (fun c=>c.2.1.toNat)=((bS (l.take j)).map fun c=>c.2.1.toNat)++[n]):=ae (by
     have:=HT.out;simp only[show (2:Nat)≠0 from by omega,if_false]at this;rw[this,Z8];simp)
    have hlen':((bS (l.take j)).map fun c=>c.2.1.toNat).length<=100000:=by rw[ZU];omega
    clear HT;generalize ((bS (l.take j)).map fun c=>c.2.1.toNat)=L at *;go_wp2_with fail;refine(Mp.out _).mono ?_;rintro e wq ⟨rfl,rfl⟩;go_wp2_with (first | (at_builtin;refine jx rfl _ _ rfl w.heap.size _ _ n L rfl (HO.out.kept (ak _ _)) rfl (aK _ _ _) hlen' ?c2 ?_))
    case c2=>first | omega | (rw[ZS];omega)
    intro v' w2 o2 b2;have dr:=ae o2;have aN:=ae ((HB.out.alloc bO _).trans b2);clear o2 b2;go_wp2_with fail;go_roundw
    case rel=>exact⟨j+1,by omega,by go_num,by rw[HT'.out];exact dr.out,aN.out⟩
    case measure=>simp[intOf];omega
   ·omega
  ·have:j=l.length:=by omega
   subst this;have gJ:¬ ((l.length:Nat):Int)<(l.length:Int):=by omega
   rw[ZY]at HO;go_wp2_with fail;go_ret
   exact⟨⟨_,rfl,HO.out⟩,HB.out⟩
end Go.Proofs.YtpljdjmpamjkhaaGreatDoor

import Derived.Test.YtpljdjmpamjkhaaGreatDoorWaf
import Derived.Shelf.Bits.Mul64
import Derived.Shelf.SlicesG.Turned
import Derived.Shelf.SlicesG.Clone
import Derived.Shelf.SlicesG.CompactI
import Derived.Shelf.SlicesG.CompactS
import Derived.Shelf.SlicesG.SearchI
import Derived.Shelf.SortM.Plain
import Derived.Shelf.Spec.SearchS
import Derived.Shelf.SortM.SortNone
import Derived.Lib.OwnBridge
set_option linter.unusedVariables false
set_option linter.unusedSimpArgs false
set_option maxRecDepth 100000
set_option maxHeartbeats 2000000
namespace Go.Proofs.YtpljdjmpamjkhaaGreatDoor
open Go.RowKit Go.Lib
def aH(l:List Int):List Value:=l.map fun z=>Value.int .i64 z
theorem yg(a b:List Int):aH (a++b)=aH a++aH b:=YX
theorem bL(a:List Int):(aH a).length=a.length:=YD _
theorem mw{l:List Int}{j:Nat}(h:j<l.length):(aH l)[j]?=some (.int .i64 l[j]):=by simp[aH,h]
theorem wL(l:List Int)(j:Nat)(c:Int):(aH l).set j (.int .i64 c)=aH (l.set j c):=by simp[aH,List.map_set]
def em(W:World)(B:Nat)(v:Value)(bs:List Nat):Prop:=W.ownsRow B 92 1 v bs.length (az .u64 bs)
def bU(W:World)(B:Nat)(v:Value)(l:List Int):Prop:=W.ownsRow B 2 1 v l.length (aH l)
theorem em.nil(W:World)(B:Nat):em W B (.slice none 0 0) []:=Zx _ _ _ _
theorem bU.nil(W:World)(B:Nat):bU W B (.slice none 0 0) []:=Zx _ _ _ _
theorem em.kept{w w':World}{B:Nat}{v:Value}{bs:List Nat}(h:em w B v bs)(hb:Below w.heap.size w w'):em w' B v bs:=bP h hb
theorem bU.kept{w w':World}{B:Nat}{v:Value}{bs:List Int}(h:bU w B v bs)(hb:Below w.heap.size w w'):bU w' B v bs:=bP h hb
theorem em.sv{W:World}{B:Nat}{v:Value}{bs:List Nat}(h:em W B v bs):Sv W v (az .u64 bs):=Sv.of_own h
theorem bU.sv{W:World}{B:Nat}{v:Value}{l:List Int}(h:bU W B v l):Sv W v (aH l):=Sv.of_own h
theorem fQ{z:Int}(hz:I64 z)(w:World):Calls Tryz.prog 174 #[.int .i64 z] w (dJ w (wv z)):=by
 refine(Dm z hz.1 hz.2 w).mono ?_;rintro e w' ⟨⟨v,rfl,h⟩,hb⟩;exact⟨⟨v,rfl,by unfold aG;rw[wv,FH,nB];exact h⟩,hb⟩
theorem Ad(a b:List Int):gd (a++b)=gd a++gd b:=by
 induction a with
 | nil=>rfl
 | cons x t ih=>rw[Zv,gd,ih,gd,YR]
theorem Hs{l:List Int}{k:Nat}(h:k<l.length):gd (l.take (k+1))=gd (l.take k)++wv l[k]:=by
 rw[YP h,Ad];simp[gd]
theorem Is.take{l:List Int}(h:Is l)(k:Nat):Is (l.take k):=fun x hx=>h x (ZA hx)
theorem Is.get{l:List Int}(h:Is l){k:Nat}(hk:k<l.length):I64 l[k]:=h _ (YF hk)
theorem Sv.at{W:World}{a:Option Addr}{n cap:Nat}{l:List Int}(h:Sv W (.slice a n cap) (aH l)){k:Nat}(hk:k<l.length) :
  ∃ b off,a=some ⟨b,off,none⟩/\b<W.heap.size/\W.cell? ⟨b,off+k,none⟩=some (.int .i64 l[k]):=by
 obtain⟨a',c,h1,h2,h3,h4,h5⟩:=h;simp only[Value.slice.injEq]at h1;obtain⟨rfl,_,rfl⟩:=h1;obtain⟨b,off,h6,h7,h8⟩:=h5 (by rw[bL];omega);exact⟨b,off,h6,h7,h8 k _ (mw hk)⟩
theorem Sv.form{W:World}{v:Value}{l:List Int}(h:Sv W v (aH l)):∃ a cap,v=.slice a l.length cap/\l.length<=cap/\cap<=maxLen:=by
 obtain⟨a,cap,rfl,h1,h2,_⟩:=h;rw[bL]at *;exact⟨a,cap,rfl,h1,h2⟩
theorem rC{w:World}{v:Value}{l:List Int}(hs:Sv w v (aH l))(hl:l.length<=256)(hi:Is l) :
  Calls Tryz.prog 226 #[v] w (dJ w (gd l)):=by
 have HI:=ae hi;have HS:=ae hs;obtain⟨a,cap,rfl,aV,bw⟩:=hs.form;clear hs hi aV bw;go_enter Tryz.func226,Tryz.ntmps226
 go_wp2_with fail;go_loopw [3,8] (fun b i wr=>∃ k:Nat,k<=l.length/\i=.int .i64 (k:Int)/\aG wr w.heap.size b (gd (l.take k))/\Below w.heap.size w wr) (fun _ i _=>l.length-(intOf i).toNat)
 case atStart=>exact⟨0,by omega,rfl,aG.nil _ _,Yz _ _⟩
 case round =>
  obtain⟨k,hk,rfl,aw,ao⟩:=hrel;have HO:=ae aw;have HB:=ae ao;have bM:=ao.size;clear aw ao;by_cases ar:k<l.length
  ·obtain⟨b,off,rfl,hb,ek⟩:=(HS.o.kept HB.o).at ar
   have HX:=ae (HI.o.get ar);have HT:=ae (Hs ar);have ll:=(mn (HI.o.take k)).1;rw[YH]at ll;have hten:=gL (HI.o.get ar);generalize l[k]=x at *;generalize gd (l.take k)=acc at *;go_wp2_with fail;refine(fQ HX.o _).mono ?_;rintro e w2 ⟨⟨v2,rfl,fx⟩,ay⟩;have ec:=ae fx;have HOk:=ae (HO.o.kept ay);have aK:=ae (HB.o.trans (ay.mono bM));have bh:=ay.size;clear fx ay;go_wp2_with (first | (at_builtin;refine aB rfl _ _ rfl w.heap.size _ _ acc (wv x) rfl HOk.o rfl ec.o.sv ?c1 ?c2 ?_))
   case c1=>omega
   case c2=>omega
   intro v3 w3 o3 b3;have dx:=ae o3;have bT:=ae (aK.o.trans b3);clear o3 b3;go_wp2_with fail;go_roundw
   case rel=>exact⟨k+1,by omega,by go_num,by rw[HT.o];exact dx.o,bT.o⟩
   case measure=>simp[intOf];omega
  ·obtain rfl:k=l.length:=by omega
   rw[YK]at HO;go_wp2_with fail;go_ret
   exact⟨⟨_,rfl,HO.o⟩,HB.o⟩
open Go.Shelf
def Ae:Go.Shelf.Ren:=⟨fun | 212=>295 | 263=>305 | 264=>306 | n=>n,fun | 46=>40 | 51=>22 | 146=>327 | 53=>92 | 148=>329 | n=>n,fun | n=>n⟩
theorem Si:Go.Proofs.Lays.n212 Tryz.prog Ae:={
 mixed:=by kernel_rfl
 f212:=Tryz.func295.trans (YE some (by kernel_rfl))
 f263:=Tryz.func305.trans (YE some (by kernel_rfl))
 f264:=Tryz.func306.trans (YE some (by kernel_rfl))
 t46:=Tryz.underlying40
 a46:=Tryz.isAgg40
 z46:=Tryz.sizeOf40
 v46:=Tryz.zeroValue40
 t51:=Tryz.underlying22
 a51:=Tryz.isAgg22
 z51:=Tryz.sizeOf22
 v51:=Tryz.zeroValue22
 t53:=Tryz.underlying92
 a53:=Tryz.isAgg92
 z53:=Tryz.sizeOf92
 v53:=Tryz.zeroValue92
 t146:=Tryz.underlying327
 a146:=Tryz.isAgg327
 z146:=Tryz.sizeOf327
 v146:=Tryz.zeroValue327
 t148:=Tryz.underlying329
 a148:=Tryz.isAgg329
 z148:=Tryz.sizeOf329
 v148:=Tryz.zeroValue329 }
def nI:Go.Shelf.Ren:=⟨fun | 39=>248 | n=>n,fun | 22=>143 | 23=>2 | 3=>3 | 4=>4 | 9=>9 | 20=>20 | 0=>0 | n=>n,fun | n=>n⟩
theorem tN:Go.Proofs.SlLaysN.n39 Tryz.prog nI:={
 mixed:=by kernel_rfl
 f39:=⟨Tryz.f248.name,by decide,Tryz.func248.trans (YE some (by kernel_rfl))⟩
 t0:=Tryz.underlying0
 a0:=Tryz.isAgg0
 z0:=Tryz.sizeOf0
 v0:=Tryz.zeroValue0
 t3:=Tryz.underlying3
 a3:=Tryz.isAgg3
 z3:=Tryz.sizeOf3
 v3:=Tryz.zeroValue3
 t4:=Tryz.underlying4
 a4:=Tryz.isAgg4
 z4:=Tryz.sizeOf4
 v4:=Tryz.zeroValue4
 t9:=Tryz.underlying9
 a9:=Tryz.isAgg9
 z9:=Tryz.sizeOf9
 v9:=Tryz.zeroValue9
 t20:=Tryz.underlying20
 a20:=Tryz.isAgg20
 z20:=Tryz.sizeOf20
 v20:=Tryz.zeroValue20
 t22:=Tryz.underlying143
 a22:=Tryz.isAgg143
 z22:=Tryz.sizeOf143
 v22:=Tryz.zeroValue143
 t23:=Tryz.underlying2
 a23:=Tryz.isAgg2
 z23:=Tryz.sizeOf2
 v23:=Tryz.zeroValue2 }
def nJ:Go.Shelf.Ren:=⟨fun | 41=>241 | n=>n,fun | 22=>143 | 23=>2 | 4=>4 | n=>n,fun | n=>n⟩
theorem jl:Go.Proofs.SlLaysN.n41 Tryz.prog nJ:={
 mixed:=by kernel_rfl
 f41:=⟨Tryz.f241.name,by decide,Tryz.func241.trans (YE some (by kernel_rfl))⟩
 t4:=Tryz.underlying4
 a4:=Tryz.isAgg4
 z4:=Tryz.sizeOf4
 v4:=Tryz.zeroValue4
 t22:=Tryz.underlying143
 a22:=Tryz.isAgg143
 z22:=Tryz.sizeOf143
 v22:=Tryz.zeroValue143
 t23:=Tryz.underlying2
 a23:=Tryz.isAgg2
 z23:=Tryz.sizeOf2
 v23:=Tryz.zeroValue2
 i23:=by kernel_rfl }
def oU:Go.Shelf.Ren:=⟨fun | 42=>207 | n=>n,fun | 25=>144 | 26=>9 | 4=>4 | n=>n,fun | n=>n⟩
theorem ke:Go.Proofs.SlLaysN.n42 Tryz.prog oU:={
 mixed:=by kernel_rfl
 f42:=⟨Tryz.f207.name,by decide,Tryz.func207.trans (YE some (by kernel_rfl))⟩
 t4:=Tryz.underlying4
 a4:=Tryz.isAgg4
 z4:=Tryz.sizeOf4
 v4:=Tryz.zeroValue4
 t25:=Tryz.underlying144
 a25:=Tryz.isAgg144
 z25:=Tryz.sizeOf144
 v25:=Tryz.zeroValue144
 t26:=Tryz.underlying9
 a26:=Tryz.isAgg9
 z26:=Tryz.sizeOf9
 v26:=Tryz.zeroValue9
 i26:=by kernel_rfl }
def nK:Go.Shelf.Ren:=⟨fun | 43=>243 | n=>n,fun | 22=>143 | 23=>2 | 3=>3 | 4=>4 | 0=>0 | n=>n,fun | n=>n⟩
theorem lJ:Go.Proofs.SlLaysN.n43 Tryz.prog nK:={
 mixed:=by kernel_rfl
 f43:=⟨Tryz.f243.name,by decide,Tryz.func243.trans (YE some (by kernel_rfl))⟩
 t0:=Tryz.underlying0
 a0:=Tryz.isAgg0
 z0:=Tryz.sizeOf0
 v0:=Tryz.zeroValue0
 t3:=Tryz.underlying3
 a3:=Tryz.isAgg3
 z3:=Tryz.sizeOf3
 v3:=Tryz.zeroValue3
 t4:=Tryz.underlying4
 a4:=Tryz.isAgg4
 z4:=Tryz.sizeOf4
 v4:=Tryz.zeroValue4
 t22:=Tryz.underlying143
 a22:=Tryz.isAgg143
 z22:=Tryz.sizeOf143
 v22:=Tryz.zeroValue143
 t23:=Tryz.underlying2
 a23:=Tryz.isAgg2
 z23:=Tryz.sizeOf2
 v23:=Tryz.zeroValue2
 i23:=by kernel_rfl }
def oV:Go.Shelf.Ren:=⟨fun | 44=>209 | n=>n,fun | 25=>144 | 26=>9 | 3=>3 | 4=>4 | 0=>0 | n=>n,fun | n=>n⟩
theorem mY:Go.Proofs.SlLaysN.n44 Tryz.prog oV:={
 mixed:=by kernel_rfl
 f44:=⟨Tryz.f209.name,by decide,Tryz.func209.trans (YE some (by kernel_rfl))⟩
 t0:=Tryz.underlying0
 a0:=Tryz.isAgg0
 z0:=Tryz.sizeOf0
 v0:=Tryz.zeroValue0
 t3:=Tryz.underlying3
 a3:=Tryz.isAgg3
 z3:=Tryz.sizeOf3
 v3:=Tryz.zeroValue3
 t4:=Tryz.underlying4
 a4:=Tryz.isAgg4
 z4:=Tryz.sizeOf4
 v4:=Tryz.zeroValue4
 t25:=Tryz.underlying144
 a25:=Tryz.isAgg144
 z25:=Tryz.sizeOf144
 v25:=Tryz.zeroValue144
 t26:=Tryz.underlying9
 a26:=Tryz.isAgg9
 z26:=Tryz.sizeOf9
 v26:=Tryz.zeroValue9
 i26:=by kernel_rfl }
def nL:Go.Shelf.Ren:=⟨fun | 49=>269 | 59=>288 | 60=>291 | 68=>186 | n=>n,fun | 22=>143 | 23=>2 | 3=>3 | 4=>4 | 51=>40 | 0=>0 | n=>n,fun | n=>n⟩
theorem tO:Go.Proofs.SlLaysN.n49 Tryz.prog nL:={
 mixed:=by kernel_rfl
 f49:=⟨Tryz.f269.name,by decide,Tryz.func269.trans (YE some (by kernel_rfl))⟩
 f59:=⟨Tryz.f288.name,by decide,Tryz.func288.trans (YE some (by kernel_rfl))⟩
 f60:=⟨Tryz.f291.name,by decide,Tryz.func291.trans (YE some (by kernel_rfl))⟩
 f68:=⟨Tryz.f186.name,by decide,Tryz.func186.trans (YE some (by kernel_rfl))⟩
 t0:=Tryz.underlying0
 a0:=Tryz.isAgg0
 z0:=Tryz.sizeOf0
 v0:=Tryz.zeroValue0
 t3:=Tryz.underlying3
 a3:=Tryz.isAgg3
 z3:=Tryz.sizeOf3
 v3:=Tryz.zeroValue3
 t4:=Tryz.underlying4
 a4:=Tryz.isAgg4
 z4:=Tryz.sizeOf4
 v4:=Tryz.zeroValue4
 t22:=Tryz.underlying143
 a22:=Tryz.isAgg143
 z22:=Tryz.sizeOf143
 v22:=Tryz.zeroValue143
 t23:=Tryz.underlying2
 a23:=Tryz.isAgg2
 z23:=Tryz.sizeOf2
 v23:=Tryz.zeroValue2
 t51:=Tryz.underlying40
 a51:=Tryz.isAgg40
 z51:=Tryz.sizeOf40
 v51:=Tryz.zeroValue40 }
def oW:Go.Shelf.Ren:=⟨fun | 5=>242 | 8=>233 | 7=>268 | 19=>259 | 20=>260 | 10=>282 | 11=>283 | 12=>284 | 13=>285 | 14=>286 | 15=>287 | 16=>288 | 17=>289 | 18=>290 | 30=>300 | 31=>271 | 32=>272 | 33=>301 | 34=>302 | 35=>186 | 40=>313 | n=>n,fun | 23=>143 | 25=>2 | 3=>3 | 32=>40 | 22=>143 | 0=>0 | 44=>22 | 46=>92 | 4=>4 | 36=>283 | 35=>282 | 41=>239 | 5=>5 | 9=>9 | 53=>295 | 57=>299 | 63=>313 | 64=>314 | n=>n,fun | n=>n⟩
theorem mZ:Go.Proofs.SlLaysM.n5 Tryz.prog oW:={
 mixed:=by kernel_rfl
 f5:=⟨Tryz.f242.name,by decide,Tryz.func242.trans (YE some (by kernel_rfl))⟩
 f7:=⟨Tryz.f268.name,by decide,Tryz.func268.trans (YE some (by kernel_rfl))⟩
 f8:=Tryz.func233.trans (YE some (by kernel_rfl))
 f10:=⟨Tryz.f282.name,by decide,Tryz.func282.trans (YE some (by kernel_rfl))⟩
 f11:=⟨Tryz.f283.name,by decide,Tryz.func283.trans (YE some (by kernel_rfl))⟩
 f12:=⟨Tryz.f284.name,by decide,Tryz.func284.trans (YE some (by kernel_rfl))⟩
 f13:=⟨Tryz.f285.name,by decide,Tryz.func285.trans (YE some (by kernel_rfl))⟩
 f14:=⟨Tryz.f286.name,by decide,Tryz.func286.trans (YE some (by kernel_rfl))⟩
 f15:=⟨Tryz.f287.name,by decide,Tryz.func287.trans (YE some (by kernel_rfl))⟩
 f16:=⟨Tryz.f288.name,by decide,Tryz.func288.trans (YE some (by kernel_rfl))⟩
 f17:=⟨Tryz.f289.name,by decide,Tryz.func289.trans (YE some (by kernel_rfl))⟩
 f18:=⟨Tryz.f290.name,by decide,Tryz.func290.trans (YE some (by kernel_rfl))⟩
 f19:=Tryz.func259.trans (YE some (by kernel_rfl))
 f20:=Tryz.func260.trans (YE some (by kernel_rfl))
 f30:=⟨Tryz.f300.name,by decide,Tryz.func300.trans (YE some (by kernel_rfl))⟩
 f31:=Tryz.func271.trans (YE some (by kernel_rfl))
 f32:=Tryz.func272.trans (YE some (by kernel_rfl))
 f33:=⟨Tryz.f301.name,by decide,Tryz.func301.trans (YE some (by kernel_rfl))⟩
 f34:=⟨Tryz.f302.name,by decide,Tryz.func302.trans (YE some (by kernel_rfl))⟩
 f35:=⟨Tryz.f186.name,by decide,Tryz.func186.trans (YE some (by kernel_rfl))⟩
 f40:=⟨Tryz.f313.name,by decide,Tryz.func313.trans (YE some (by kernel_rfl))⟩
 t0:=Tryz.underlying0
 a0:=Tryz.isAgg0
 z0:=Tryz.sizeOf0
 v0:=Tryz.zeroValue0
 t3:=Tryz.underlying3
 a3:=Tryz.isAgg3
 z3:=Tryz.sizeOf3
 v3:=Tryz.zeroValue3
 t4:=Tryz.underlying4
 a4:=Tryz.isAgg4
 z4:=Tryz.sizeOf4
 v4:=Tryz.zeroValue4
 t5:=Tryz.underlying5
 a5:=Tryz.isAgg5
 z5:=Tryz.sizeOf5
 v5:=Tryz.zeroValue5
 t9:=Tryz.underlying9
 a9:=Tryz.isAgg9
 z9:=Tryz.sizeOf9
 v9:=Tryz.zeroValue9
 t22:=Tryz.underlying143
 a22:=Tryz.isAgg143
 z22:=Tryz.sizeOf143
 v22:=Tryz.zeroValue143
 t23:=Tryz.underlying143
 a23:=Tryz.isAgg143
 z23:=Tryz.sizeOf143
 v23:=Tryz.zeroValue143
 t25:=Tryz.underlying2
 a25:=Tryz.isAgg2
 z25:=Tryz.sizeOf2
 v25:=Tryz.zeroValue2
 t32:=Tryz.underlying40
 a32:=Tryz.isAgg40
 z32:=Tryz.sizeOf40
 v32:=Tryz.zeroValue40
 t35:=Tryz.underlying282
 a35:=Tryz.isAgg282
 z35:=Tryz.sizeOf282
 v35:=Tryz.zeroValue282
 t36:=Tryz.underlying283
 a36:=Tryz.isAgg283
 z36:=Tryz.sizeOf283
 v36:=Tryz.zeroValue283
 t41:=Tryz.underlying239
 a41:=Tryz.isAgg239
 z41:=Tryz.sizeOf239
 v41:=Tryz.zeroValue239
 t44:=Tryz.underlying22
 a44:=Tryz.isAgg22
 z44:=Tryz.sizeOf22
 v44:=Tryz.zeroValue22
 t46:=Tryz.underlying92
 a46:=Tryz.isAgg92
 z46:=Tryz.sizeOf92
 v46:=Tryz.zeroValue92
 t53:=Tryz.underlying295
 a53:=Tryz.isAgg295
 z53:=Tryz.sizeOf295
 v53:=Tryz.zeroValue295
 t57:=Tryz.underlying299
 a57:=Tryz.isAgg299
 z57:=Tryz.sizeOf299
 v57:=Tryz.zeroValue299
 t63:=Tryz.underlying313
 a63:=Tryz.isAgg313
 z63:=Tryz.sizeOf313
 v63:=Tryz.zeroValue313
 t64:=Tryz.underlying314
 a64:=Tryz.isAgg314
 z64:=Tryz.sizeOf314
 v64:=Tryz.zeroValue314 }
def qv:Go.Shelf.Ren:=⟨fun | 6=>208 | 8=>233 | 9=>232 | 19=>259 | 20=>260 | 21=>250 | 22=>251 | 23=>252 | 24=>253 | 25=>254 | 26=>255 | 27=>256 | 28=>257 | 29=>258 | 36=>270 | 31=>271 | 32=>272 | 37=>273 | 38=>274 | 39=>187 | 41=>292 | n=>n,fun | 27=>144 | 29=>9 | 3=>3 | 32=>40 | 26=>144 | 0=>0 | 44=>22 | 46=>92 | 4=>4 | 36=>283 | 35=>282 | 41=>239 | 5=>5 | 9=>9 | 53=>295 | 57=>299 | 63=>313 | 64=>314 | n=>n,fun | n=>n⟩
theorem oX:Go.Proofs.SlLaysM.n6 Tryz.prog qv:={
 mixed:=by kernel_rfl
 f6:=⟨Tryz.f208.name,by decide,Tryz.func208.trans (YE some (by kernel_rfl))⟩
 f8:=Tryz.func233.trans (YE some (by kernel_rfl))
 f9:=⟨Tryz.f232.name,by decide,Tryz.func232.trans (YE some (by kernel_rfl))⟩
 f19:=Tryz.func259.trans (YE some (by kernel_rfl))
 f20:=Tryz.func260.trans (YE some (by kernel_rfl))
 f21:=⟨Tryz.f250.name,by decide,Tryz.func250.trans (YE some (by kernel_rfl))⟩
 f22:=⟨Tryz.f251.name,by decide,Tryz.func251.trans (YE some (by kernel_rfl))⟩
 f23:=⟨Tryz.f252.name,by decide,Tryz.func252.trans (YE some (by kernel_rfl))⟩
 f24:=⟨Tryz.f253.name,by decide,Tryz.func253.trans (YE some (by kernel_rfl))⟩
 f25:=⟨Tryz.f254.name,by decide,Tryz.func254.trans (YE some (by kernel_rfl))⟩
 f26:=⟨Tryz.f255.name,by decide,Tryz.func255.trans (YE some (by kernel_rfl))⟩
 f27:=⟨Tryz.f256.name,by decide,Tryz.func256.trans (YE some (by kernel_rfl))⟩
 f28:=⟨Tryz.f257.name,by decide,Tryz.func257.trans (YE some (by kernel_rfl))⟩
 f29:=⟨Tryz.f258.name,by decide,Tryz.func258.trans (YE some (by kernel_rfl))⟩
 f31:=Tryz.func271.trans (YE some (by kernel_rfl))
 f32:=Tryz.func272.trans (YE some (by kernel_rfl))
 f36:=⟨Tryz.f270.name,by decide,Tryz.func270.trans (YE some (by kernel_rfl))⟩
 f37:=⟨Tryz.f273.name,by decide,Tryz.func273.trans (YE some (by kernel_rfl))⟩
 f38:=⟨Tryz.f274.name,by decide,Tryz.func274.trans (YE some (by kernel_rfl))⟩
 f39:=⟨Tryz.f187.name,by decide,Tryz.func187.trans (YE some (by kernel_rfl))⟩
 f41:=⟨Tryz.f292.name,by decide,Tryz.func292.trans (YE some (by kernel_rfl))⟩
 t0:=Tryz.underlying0
 a0:=Tryz.isAgg0
 z0:=Tryz.sizeOf0
 v0:=Tryz.zeroValue0
 t3:=Tryz.underlying3
 a3:=Tryz.isAgg3
 z3:=Tryz.sizeOf3
 v3:=Tryz.zeroValue3
 t4:=Tryz.underlying4
 a4:=Tryz.isAgg4
 z4:=Tryz.sizeOf4
 v4:=Tryz.zeroValue4
 t5:=Tryz.underlying5
 a5:=Tryz.isAgg5
 z5:=Tryz.sizeOf5
 v5:=Tryz.zeroValue5
 t9:=Tryz.underlying9
 a9:=Tryz.isAgg9
 z9:=Tryz.sizeOf9
 v9:=Tryz.zeroValue9
 t26:=Tryz.underlying144
 a26:=Tryz.isAgg144
 z26:=Tryz.sizeOf144
 v26:=Tryz.zeroValue144
 t27:=Tryz.underlying144
 a27:=Tryz.isAgg144
 z27:=Tryz.sizeOf144
 v27:=Tryz.zeroValue144
 t29:=Tryz.underlying9
 a29:=Tryz.isAgg9
 z29:=Tryz.sizeOf9
 v29:=Tryz.zeroValue9
 t32:=Tryz.underlying40
 a32:=Tryz.isAgg40
 z32:=Tryz.sizeOf40
 v32:=Tryz.zeroValue40
 t35:=Tryz.underlying282
 a35:=Tryz.isAgg282
 z35:=Tryz.sizeOf282
 v35:=Tryz.zeroValue282
 t36:=Tryz.underlying283
 a36:=Tryz.isAgg283
 z36:=Tryz.sizeOf283
 v36:=Tryz.zeroValue283
 t41:=Tryz.underlying239
 a41:=Tryz.isAgg239
 z41:=Tryz.sizeOf239
 v41:=Tryz.zeroValue239
 t44:=Tryz.underlying22
 a44:=Tryz.isAgg22
 z44:=Tryz.sizeOf22
 v44:=Tryz.zeroValue22
 t46:=Tryz.underlying92
 a46:=Tryz.isAgg92
 z46:=Tryz.sizeOf92
 v46:=Tryz.zeroValue92
 t53:=Tryz.underlying295
 a53:=Tryz.isAgg295
 z53:=Tryz.sizeOf295
 v53:=Tryz.zeroValue295
 t57:=Tryz.underlying299
 a57:=Tryz.isAgg299
 z57:=Tryz.sizeOf299
 v57:=Tryz.zeroValue299
 t63:=Tryz.underlying313
 a63:=Tryz.isAgg313
 z63:=Tryz.sizeOf313
 v63:=Tryz.zeroValue313
 t64:=Tryz.underlying314
 a64:=Tryz.isAgg314
 z64:=Tryz.sizeOf314
 v64:=Tryz.zeroValue314 }
def yh:Go.Shelf.Ren:=⟨fun | 26=>234 | 33=>256 | 34=>261 | 38=>187 | n=>n,fun | 24=>144 | 9=>9 | 3=>3 | 4=>4 | 40=>40 | 0=>0 | n=>n,fun | n=>n⟩
theorem Mx:Go.Proofs.Lays2.n26 Tryz.prog yh:={
 mixed:=by kernel_rfl
 f26:=Tryz.func234.trans (YE some (by kernel_rfl))
 f33:=Tryz.func256.trans (YE some (by kernel_rfl))
 f34:=Tryz.func261.trans (YE some (by kernel_rfl))
 f38:=Tryz.func187.trans (YE some (by kernel_rfl))
 t0:=Tryz.underlying0
 a0:=Tryz.isAgg0
 z0:=Tryz.sizeOf0
 v0:=Tryz.zeroValue0
 t3:=Tryz.underlying3
 a3:=Tryz.isAgg3
 z3:=Tryz.sizeOf3
 v3:=Tryz.zeroValue3
 t4:=Tryz.underlying4
 a4:=Tryz.isAgg4
 z4:=Tryz.sizeOf4
 v4:=Tryz.zeroValue4
 t9:=Tryz.underlying9
 a9:=Tryz.isAgg9
 z9:=Tryz.sizeOf9
 v9:=Tryz.zeroValue9
 t24:=Tryz.underlying144
 a24:=Tryz.isAgg144
 z24:=Tryz.sizeOf144
 v24:=Tryz.zeroValue144
 t40:=Tryz.underlying40
 a40:=Tryz.isAgg40
 z40:=Tryz.sizeOf40
 v40:=Tryz.zeroValue40 }
theorem Sv.cells{W:World}{b off n cap:Nat}{l:List Int}(h:Sv W (.slice (some ⟨b,off,none⟩) n cap) (aH l)):∀ j,j<l.length->W.cell? ⟨b,off+j,none⟩=some (.int .i64 (l.getD j 0)):=by
 intro j hj;obtain⟨b',off',h1,_,h2⟩:=h.at hj;cases h1
 rw[h2];simp[List.getD_eq_getElem?_getD,hj]
theorem Do{w:World}{v:Value}{l:List Int}(hs:Sv w v (aH l))(hl:l.length<=256) :
  Calls Tryz.prog 241 #[v] w fun e w'=>(∃ v',e=.returned v'/\bU w' w.heap.size v' l)/\Below w.heap.size w w':=by
 have Gv:=hs;obtain⟨a,cap,rfl,h1,h2,h3,h4⟩:=hs;rw[bL]at *;cases a with
 | none =>
  have hc:=h3 rfl;have sQ:l=[]:=YU (by omega);subst sQ;refine Calls.mono (AnyG.slices_Clone_int_nil jl _ _ w) ?_;rintro e w' ⟨rfl,rfl⟩;exact⟨⟨_,rfl,bU.nil _ _⟩,Yz _ _⟩
 | some a =>
  rcases Zw l.length with h0 | h0
  ·have sQ:l=[]:=YU h0
   subst sQ;refine Calls.mono (AnyG.slices_Clone_int_zero jl a cap w) ?_;rintro e w' ⟨v',rfl,ho,_,hb⟩;exact⟨⟨_,rfl,ho⟩,hb⟩
  ·obtain⟨b,off,h5,h6,h7⟩:=h4 h0
   cases h5
   refine Calls.mono (AnyG.slices_Clone_int jl b off l.length cap l w (YA _) (by omega) Gv.cells) ?_;rintro e w' ⟨v',rfl,ho,_,hb⟩;rw[YK]at ho;exact⟨⟨_,rfl,ho⟩,hb⟩
def srt(l:List Int):List Int:=l.mergeSort fun x y=>decide (x<=y)
theorem kT(l:List Int):(srt l).length=l.length:=List.length_mergeSort l
theorem jm{B:Nat}{w:World}(os:Array Obj)(hB:B<=w.heap.size):Below B w (Sort.grow w os) :=
 ⟨rfl,rfl,rfl,by simp,fun k hk=>Sort.heap_grow_old _ _ (by omega)⟩
theorem My{w:World}{B:Nat}{v:Value}{l:List Int}(h:bU w B v l)(hl:l.length<=256)(hB:B<=w.heap.size) :
  Calls Tryz.prog 242 #[v] w fun e w'=>e=.returned (.tuple #[])/\bU w' B v (srt l)/\Below B w w':=by
 by_cases hv:v=.slice none 0 0
 ·subst hv
  have sQ:l=[]:=by
   have h1:=h.1;rcases h.2 with ⟨_,h2⟩ | ⟨g,cap,cur,h2,_⟩
   ·exact YU h2
   ·cases h2
  subst sQ;refine Calls.mono (AnyM.slices_Sort_int_none mZ none 0 w) ?_;rintro e w' ⟨rfl,rfl⟩;exact⟨rfl,(by unfold srt;rw[List.mergeSort_nil];exact h),Yz _ _⟩
 ·obtain⟨g,cap,rfl,hb,hg,hc,hm,bg,hH⟩:=holds_of_ownsRow (enc:=Value.int .i64) h hv
  refine Calls.mono (AnyM.slices_Sort_int mZ g 0 cap l w hH hg (by omega)) ?_;rintro e w' ⟨rfl,n,os,rfl⟩;have h1:=ownsRow_putRow (enc:=Value.int .i64) (q:=n) (k:=l.length) (ys:=srt l) h (kT l) (YA _);have aA:=below_putRow (enc:=Value.int .i64) (q:=n) (d:=(srt l).toArray) (Yz B w) hb;refine⟨rfl,?_,aA.trans (jm os (by have:=aA.size;omega))⟩;unfold bU;rw[kT];rw[Zo (by rw[kT];omega)]at h1;exact bP h1 (jm os (YA _))
theorem Af{w:World}{B:Nat}{v:Value}{l:List Int}(h:bU w B v l)(hl:l.length<=256)(hB:B<=w.heap.size) :
  Calls Tryz.prog 243 #[v] w fun e w'=>(∃ v',e=.returned v'/\bU w' B v' (Lib.compact l))/\Below B w w':=by
 by_cases hv:v=.slice none 0 0
 ·subst hv
  have sQ:l=[]:=by
   have h1:=h.1;rcases h.2 with ⟨_,h2⟩ | ⟨g,cap,cur,h2,_⟩
   ·exact YU h2
   ·cases h2
  subst sQ;refine Calls.mono (AnyG.slices_Compact_int_empty lJ none 0 w) ?_;rintro e w' ⟨rfl,rfl⟩;exact⟨⟨_,rfl,h⟩,Yz _ _⟩
 ·obtain⟨g,cap,rfl,hb,hg,hc,hm,bg,hH⟩:=holds_of_ownsRow (enc:=Value.int .i64) h hv
  have ob:=Lib.compact_length_le l;refine Calls.mono (AnyG.slices_Compact_int lJ g 0 cap l w hH (by omega) (by omega)) ?_;rintro e w' ⟨rfl,q,rfl⟩;have h1:=ownsRow_putRow (enc:=Value.int .i64) (q:=q) (k:=(Lib.compact l).length) (ys:=Lib.compact l++List.replicate (l.length-(Lib.compact l).length) 0) h (by simp;omega) (by omega);rw[ZB]at h1;exact⟨⟨_,rfl,h1⟩,below_putRow (enc:=Value.int .i64) (Yz B w) hb⟩
theorem Dp{w:World}{v:Value}{u:List Int}(hs:Sv w v (aH u))(hu:0<u.length)(hl:u.length<=256)(hr:cY u)(x:Int) :
  Calls Tryz.prog 269 #[v,.int .i64 x] w fun e w'=>(∃ r,e=.returned (.tuple #[.int .i64 (u.countP (· < x):Nat),r]))/\Below w.heap.size w w':=by
 have Gv:=hs;obtain⟨a,cap,rfl,h1,h2,h3,h4⟩:=hs;rw[bL]at *;obtain⟨b,off,rfl,h6,h7⟩:=h4 hu;refine Calls.mono (AnyG.slices_BinarySearch_int tO b off u.length cap u x w (YA _) (by omega) Gv.cells (by rw[YK];exact hr.imp Int.le_of_lt)) ?_;rintro e w' ⟨rfl,q,rfl⟩;rw[YK];exact⟨⟨_,rfl⟩,ak (Yz _ _) q⟩
theorem Sj{w:World}{v:Value}{l:List Int}(hs:Sv w v (aH l))(hp:0<l.length)(hl:l.length<=256) :
  Calls Tryz.prog 248 #[v] w fun e w'=>e=.returned (.int .i64 (Lib.minOf l))/\w'=w:=by
 have Gv:=hs;obtain⟨a,cap,rfl,h1,h2,h3,h4⟩:=hs;rw[bL]at *;obtain⟨b,off,rfl,h6,h7⟩:=h4 hp;have:=AnyG.slices_Min_int tN b off l.length cap l w hp (YA _) (by omega) Gv.cells;rw[YK]at this;exact this
theorem wM{x:Int}:∀{u:List Int},cY u->x∈u->u.countP (· < x)=pl u x
 | y::t,hr,hx=>by
  have h1:(∀ z∈t,y<z)/\cY t:=ZH.1 hr;unfold pl;split
  ·next e =>
   subst e;rw[List.countP_eq_zero];intro z hz;rcases YQ.1 hz with rfl | hz
   ·simp
   ·have:=h1.1 z hz
    simp;omega
  ·next fb =>
   have ht:x∈t:=by
    rcases YQ.1 hx with rfl | h
    ·exact absurd rfl fb
    ·exact h
   have ar:=h1.1 x ht;rw[List.countP_cons_of_pos (by simpa using ar),wM h1.2 ht]
theorem tP:∀{a b:List Int},cY a->cY b->(∀ z,z∈a↔z∈b)->a=b
 | [],[],_,_,_=>rfl
 | [],y::t,_,_,h=>by have:=(h y).2 (by simp);simp at this
 | x::s,[],_,_,h=>by have:=(h x).1 (by simp);simp at this
 | x::s,y::t,ha,hb,h=>by
  have h1:(∀ z∈s,x<z)/\cY s:=ZH.1 ha;have h2:(∀ z∈t,y<z)/\cY t:=ZH.1 hb
  have XP:x=y:=by
   rcases YQ.1 ((h x).1 (by simp))with e | e
   ·exact e
   ·rcases YQ.1 ((h y).2 (by simp))with e' | e'
    ·exact e'.symm
    ·have:=h1.1 y e'
     have:=h2.1 x e;omega
  subst XP;congr 1
  refine tP h1.2 h2.2 (fun z=>?_);have h3:=h z;constructor
  ·intro hz
   rcases YQ.1 (h3.1 (by simp[hz]))with rfl | e
   ·have:=h1.1 z hz;omega
   ·exact e
  ·intro hz
   rcases YQ.1 (h3.2 (by simp[hz]))with rfl | e
   ·have:=h2.1 z hz;omega
   ·exact e
theorem ix{l:List Int}:∀ m,m<=l.length->∀ z,z∈compactUpTo l.toArray m↔z∈l.take m
 | 0,_,z=>by simp[compactUpTo]
 | m+1,hm,z=>by
  have ih:=ix (l:=l) m (by omega);have hg:l.toArray[m]! = l[m]:=by simp[show m<l.length by omega]
  rw[compactUpTo_succ,Zg,ih z,YP (by omega),Zg,hg];by_cases hk:keeps l.toArray m=true
  ·rw[Yy hk]
  ·rw[Yx hk]
   constructor
   ·rintro(h | h)
    ·exact Or.inl h
    ·simp at h
   ·rintro(h | h)
    ·exact Or.inl h
    ·left
     have h':z=l[m]:=by simpa using h
     unfold keeps at hk;simp only[Zu]at hk;have ew:l.toArray[m-1]! = l[m-1]:=by simp[show m-1<l.length by omega]
     rw[hg,ew]at hk;have WE:m≠0:=fun e=>hk (Or.inl e)
     have he:l[m]=l[m-1]:=Decidable.byContradiction fun e=>hk (Or.inr e)
     rw[h',he];exact jaG.2 ⟨m-1,by omega,rfl⟩
theorem jn{l:List Int}(hs:l.Pairwise (·<=·)):∀ m,m<=l.length->cY (compactUpTo l.toArray m)
 | 0,_=>by simp[compactUpTo,cY]
 | m+1,hm=>by
  have ih:=jn hs m (by omega);have hg:l.toArray[m]! = l[m]:=by simp[show m<l.length by omega]
  rw[compactUpTo_succ,hg];by_cases hk:keeps l.toArray m=true
  ·rw[Yy hk]
   refine List.pairwise_append.2 ⟨ih,by simp,fun a ha b hb=>?_⟩;have hb':b=l[m]:=by simpa using hb
   subst hb';have h1:=(ix m (by omega) a).1 ha;obtain⟨j,hj,rfl⟩:=jaG.1 h1;have hjm:j<m:=(by omega);unfold keeps at hk;simp only[Zu]at hk;have ew:l.toArray[m-1]! = l[m-1]:=by simp[show m-1<l.length by omega]
   rw[hg,ew]at hk
   have h2:l[m]≠l[m-1]:=by
    rcases hk with h | h
    ·omega
    ·exact h
   have h3:l[m-1]<=l[m]:=jaA.1 hs (m-1) m (by omega) (by omega) (by omega)
   have h4:l[j]<=l[m-1]:=by
    rcases Zd j (m-1)with h | h
    ·exact jaA.1 hs j (m-1) (by omega) (by omega) h
    ·have:j=m-1:=by omega
     subst this;exact Int.le_refl _
   omega
  ·rw[Yx hk,YZ]
   exact ih
theorem Ag(l:List Int):Lib.compact (srt l)=dZ l:=by
 have hs:(srt l).Pairwise (·<=·):=by
  have:=List.pairwise_mergeSort (le:=fun x y:Int=>decide (x<=y)) (fun a b c h1 h2=>by simp at *;omega) (fun a b=>by simp;omega) l;exact this.imp (fun h=>by simpa using h)
 refine tP (jn hs _ (YA _)) (hO l) (fun z=>?_);rw[gg];have:=ix (l:=srt l) (srt l).length (YA _) z;rw[YK]at this;unfold Lib.compact;rw[this];exact List.mem_mergeSort
theorem Ah{l:List Int}(h:0<l.length):Lib.minOf l=iC l:=by
 have key:∀(t:List Int) (a:Int),t.foldl min a<=a/\(∀ x∈t,t.foldl min a<=x)/\(t.foldl min a=a∨t.foldl min a∈t):=by
  intro t;induction t with
  | nil=>intro a;simp
  | cons y t ih =>
   intro a;obtain⟨i1,i2,i3⟩:=ih (min a y);simp only[List.foldl_cons];refine⟨by omega,fun x hx=>?_,?_⟩
   ·rcases YQ.1 hx with rfl | hx
    ·omega
    ·exact i2 x hx
   ·rcases i3 with i3 | i3
    ·rw[i3]
     rcases Int.le_total a y with h | h
     ·left;omega
     ·right;simp;left;omega
    ·right;simp[i3]
 have h1:Lib.minOf l∈l/\∀ x∈l,Lib.minOf l<=x:=by
  cases l with
  | nil=>simp at h
  | cons a t =>
   have:=key (a::t) a;unfold Lib.minOf;rw[List.headD_cons];refine⟨?_,this.2.1⟩;rcases this.2.2 with e | e
   ·rw[e];simp
   ·exact e
 have h2:=iR h;have h3:=h1.2 _ h2;have h4:=oK _ h1.1;omega
end Go.Proofs.YtpljdjmpamjkhaaGreatDoor

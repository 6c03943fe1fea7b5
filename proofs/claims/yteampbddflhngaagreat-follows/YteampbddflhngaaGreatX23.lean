import Derived.Test.YteampbddflhngaaGreatX20
namespace Go.Proofs.YteampbddflhngaaGreat
set_option linter.all false
set_option maxRecDepth 100000
set_option maxHeartbeats 4000000
open Go.Proofs.Tryz Go.RowKit
section
variable {lo:Nat}{b0 wd bb fb ab:Nat}{w w':World}{c:Array Value}{tv:Value}{own2 own3:Nat->zn}
theorem PF.below'{v:Value}{rs:List zk}(h:PF b0 w v rs)(a:Below w.heap.size w w'):PF b0 w' v rs:=⟨zC h.1 a,h.2⟩
structure VC (c:Array Value) (o wd pred:Nat) (tv:Value) (bb fb ab:Nat):Prop where
 c0:c[o]?=some (.int .i64 pred)
 c1:c[o+1]?=some tv
 c2:c[o+2]?=some (.int .i64 wd)
 c3:c[o+3]?=some (.pointer (some ⟨bb,0,none⟩))
 c4:c[o+4]?=some (.pointer (some ⟨fb,0,none⟩))
 c5:c[o+5]?=some (.pointer (some ⟨ab,0,none⟩))
theorem VC.set{o a:Nat}(h:VC c o wd a tv bb fb ab)(b:Nat):VC (c.setIfInBounds (o+4) (.pointer (some ⟨b,0,none⟩))) o wd a tv bb b ab:=by
 obtain⟨g,i,e,k,f,j⟩:=h;have d:=(kw.1 f).1;refine⟨?_,?_,?_,?_,?_,?_⟩
 ·rw[rj (by omega)];exact g
 ·rw[rj (by omega)];exact i
 ·rw[rj (by omega)];exact e
 ·rw[rj (by omega)];exact k
 ·simp[d]
 ·rw[rj (by omega)];exact j
theorem VC.cells{g:Nat}{T:TypeId}{o a:Nat}(h:VC c o wd a tv bb fb ab)(d:Py w g c T):g<w.heap.size/\(∀q,w.frozen? ⟨g,q,none⟩=false)/\w.cell? ⟨g,o,none⟩=some (.int .i64 a)/\w.cell? ⟨g,o+1,none⟩=some tv/\w.cell? ⟨g,o+2,none⟩=some (.int .i64 wd)/\w.cell? ⟨g,o+3,none⟩=some (.pointer (some ⟨bb,0,none⟩))/\w.cell? ⟨g,o+4,none⟩=some (.pointer (some ⟨fb,0,none⟩))/\w.cell? ⟨g,o+5,none⟩=some (.pointer (some ⟨ab,0,none⟩)):=by
 obtain⟨b,e⟩:=d.rules;exact⟨d.lt,e,(b _).trans h.c0,(b _).trans h.c1,(b _).trans h.c2,(b _).trans h.c3,(b _).trans h.c4,(b _).trans h.c5⟩
def fM(k i:Nat)(ρg:zn):TypeId->zn->Prop:=fun t ρ=>(¬Qp t/\∃j,ρ=(k+1,i,j))∨(t=301/\ρ=ρg)
theorem P6.one{own a:Nat->zn}{k i j:Nat}{ρg:zn}(h:P6 lo (onT (·=(k+1,i,j))) w own w' a):P6 lo (fM k i ρg) w own w' a:=h.more fun _ _ q=>zg ⟨q.1,j,q.2⟩
theorem E7:∀(l:List zk) (T R:zi) (m:Nat),xw l T=some R->∃b,xw (l.take m) T=some b/\∀h:m<l.length,okT b=true/\xw (l.take (m+1)) T=some (addP b l[m] 0).1
 |[],T,R,m,h=>⟨T,by simp[xw],fun h=>by simp at h⟩
 |x::l,T,R,0,h=>by
  rw[xw] at h;by_cases a:okT T=true
  ·exact⟨T,rfl,fun _=>⟨a,by simp[xw,a]⟩⟩
  ·rw[za a] at h;cases h
 |x::l,T,R,m+1,h=>by
  rw[xw] at h;by_cases a:okT T=true
  ·rw[zb a] at h;obtain⟨b,f,d⟩:=E7 l _ R m h;refine⟨b,by rw[nt,xw,zb a];exact f,fun i=>?_⟩;obtain⟨g,e⟩:=d (by simpa using i);exact⟨g,by rw[nt,xw,zb a];simpa using e⟩
  ·rw[za a] at h;cases h
theorem iw:∀(l:List zk) (T R:zi) (x:zk),xw (l++[x]) T=some R->∃b,xw l T=some b/\okT b=true/\R=(addP b x 0).1
 |[],T,R,x,h=>by
  simp only[nZ,xw] at h;by_cases a:okT T=true
  ·rw[zb a] at h;exact⟨T,rfl,a,by simpa using h.symm⟩
  ·rw[za a] at h;cases h
 |y::l,T,R,x,h=>by
  rw[hZ,xw] at h;by_cases a:okT T=true
  ·rw[zb a] at h;obtain⟨b,e,d,f⟩:=iw l _ R x h;exact⟨b,by rw[xw,zb a];exact e,d,f⟩
  ·rw[za a] at h;cases h
theorem iO:∀(l l2:List zk) (T R:zi),xw (l++l2) T=some R->∃b,xw l T=some b
 |[],_,T,_,_=>⟨T,rfl⟩
 |y::l,l2,T,R,h=>by
  rw[hZ,xw] at h;by_cases a:okT T=true
  ·rw[zb a] at h;obtain⟨b,d⟩:=iO l l2 _ R h;exact⟨b,by rw[xw,zb a];exact d⟩
  ·rw[za a] at h;cases h
theorem Ca{g:Nat}{V i:y6}{d:List zk}(h:gL g wd V d=some i):∃e b f a,rowsG g V.qo=some e/\xw e V.before=some b/\xw (d.filterMap (xy V.lit)) (yR wd (yM V.lit))=some f/\xw (d.filterMap (xy V.lit)) V.all=some a/\i={V with before:=b,qo:=f,all:=a}:=by
 unfold gL at h;split at h
 ·cases h
 ·rename_i e m;split at h
  ·rename_i b f a k j l;exact⟨e,b,f,a,m,k,j,l,by simpa using h.symm⟩
  ·cases h
def N8(W a:World)(b:Option zk)(e d:Value):Prop:=∃fb x y z:Nat,e=.pointer (some ⟨fb,0,none⟩)/\d=.bool b.isSome/\[x,y,z]=b.getD [0,0,0]/\W.heap.size<=fb/\Py a fb #[.int .i64 (x:Nat),.int .i64 (y:Nat),.int .i64 (z:Nat)] 165/\Below W.heap.size W a
structure fm (lo b0:Nat) (w wr:World) (own own2:Nat->zn) (k i g:Nat) (c:Array Value) (l:zt) (bb fb ab:Nat) (B F A:zi) (tv rv:Value) (rows:List zk):Prop where
 before:yO lo wr own2 (k+1,i,0) bb B
 qo:yO lo wr own2 (k+1,i,1) fb F
 all:yO lo wr own2 (k+1,i,2) ab A
 qg:yh lo wr tv l.qg
 mod:P6 lo (fM k i (own g)) w own wr own2
 box:Py wr g c 301
 rows:PF b0 wr rv rows
theorem fm.below{b0:Nat}{w wr w':World}{own own2:Nat->zn}{k i g:Nat}{c:Array Value}{l:zt}{bb fb ab:Nat}{B F A:zi}{tv d:Value}{a:List zk}(h:fm lo b0 w wr own own2 k i g c l bb fb ab B F A tv d a)(b:Below wr.heap.size wr w'):fm lo b0 w w' own own2 k i g c l bb fb ab B F A tv d a:=
 ⟨h.before.below b,h.qo.below b,h.all.below b,h.qg.below b,h.mod.trans (P6.of own2 b),h.box.below b,h.rows.below' b⟩
theorem fm.addF{wr W:World}{own:Nat->zn}{k i g:Nat}{l:zt}{B F A e:zi}{f:Value}{a:List zk}(h:fm lo b0 w wr own own2 k i g c l bb fb ab B F A tv f a)(m:Below wr.heap.size wr W)(j:yO lo w' own3 (k+1,i,1) fb e)(d:P6 lo (onT (·=(k+1,i,1))) W own2 w' own3):fm lo b0 w w' own own3 k i g c l bb fb ab B e A tv f a:=by
 have b:=h.below m;exact⟨b.before.onT d (by simp),j,b.all.onT d (by simp),b.qg.mod d (qZ (by decide)),b.mod.trans d.one,b.box.mod d (qZ (by decide) _),b.rows.mod d (qZ (by decide))⟩
theorem fm.addA{wr W:World}{own:Nat->zn}{k i g:Nat}{l:zt}{B F A e:zi}{f:Value}{a:List zk}(h:fm lo b0 w wr own own2 k i g c l bb fb ab B F A tv f a)(m:Below wr.heap.size wr W)(j:yO lo w' own3 (k+1,i,2) ab e)(d:P6 lo (onT (·=(k+1,i,2))) W own2 w' own3):fm lo b0 w w' own own3 k i g c l bb fb ab B F e tv f a:=by
 have b:=h.below m;exact⟨b.before.onT d (by simp),b.qo.onT d (by simp),j,b.qg.mod d (qZ (by decide)),b.mod.trans d.one,b.box.mod d (qZ (by decide) _),b.rows.mod d (qZ (by decide))⟩
theorem NT{b:Nat}{T:TypeId}(h:Py w b #[.int .i64 0,.int .i64 0,.int .i64 0] T)(x y z:Nat):Py (((w.setCell ⟨b,0,none⟩ (.int .i64 x)).setCell ⟨b,1,none⟩ (.int .i64 y)).setCell ⟨b,2,none⟩ (.int .i64 z)) b #[.int .i64 x,.int .i64 y,.int .i64 z] T:=by
 have q:=((h.set 0 (.int .i64 x)).set 1 (.int .i64 y)).set 2 (.int .i64 z);simpa using q
def LD(lo:Nat)(w:World)(own:Nat->zn)(k i g o:Nat)(c:Array Value)(d:y6)(P:jo)(ρg:zn)(e:Ending)(w':World):Prop:=e=.returned (.tuple #[])/\∃b a,vn lo w' a k i d ⟨P.tv,P.bb,b,P.ab⟩/\Py w' g (c.setIfInBounds (o+4) (.pointer (some ⟨b,0,none⟩))) 301/\P6 lo (fM k i ρg) w own w' a
theorem AN(w:World)(own:Nat->zn)(k i g o wd aD:Nat)(c:Array Value)(V V':y6)(P:jo)(rv:Value)(a:List zk)(a2:Py w g c 301)(aF:VC c o wd V.lit.pred P.tv P.bb P.fb P.ab)(hv:vn lo w own k i V P)(hr:PF b0 w rv a)(ch:lo<=g)(cB:lo<=w.heap.size)(cx:wd<=1000)(cF:a.length<=1048577)(hV:gL aD wd V a=some V'):
  Calls prog 206 #[.pointer (some ⟨g,o,none⟩),rv] w fun e w'=>LD lo w own k i g o c V' P (own g) e w':=by
 obtain⟨l,bN,fN,aN,d,bB,b2,bq,bk⟩:=Ca hV;obtain⟨bU,aA,rfl⟩:=zs hr.1;have HV:=Px hv;have HR:=Px hr;have be:=Px fun W hW=>Ct W own (k+1,i,1) P.fb V.qo aD l (hv.qo.below hW) d;have ac:=Px aF;have aH:=Px bB;have bO:=Px b2;have bh:=Px bq;have co:=Px bk;have cE:l.length<=1048576:=by
  unfold rowsG at d;split at d
  ·cases d
  ·split at d
   ·simp at d;subst d;assumption
   ·cases d
 obtain⟨Y,N,B,s,G,M,E,C⟩:=aF.cells a2;clear hV hr d bB b2 bq bk aF;go_enter func206,ntmps206;go_upto_region 1 with (first|(go_at_call 78;refine(be.out _ (by exact(by go_grown))).mono ?_;rintro e w1 ⟨ov,rfl,aR,ah⟩;obtain⟨ct,cb,rfl⟩:=zs aR.1))
 clear B s G M E C N be hv;have b8:Hid (P6 lo (onT (·=(k+1,i,0))) w own w1 own):=P6.of own ah;have b9:=Px (HV.out.before.below ah);have bK:=Px (a2.below ah);have a8:=Px aR;have cs:=ah.size;clear aR ah;go_loopw [16] (fun cp wr=>∃(m:Nat) (T:zi) (b:Nat->zn),m<=l.length/\cp=.int .i64 m/\w.heap.size<=wr.heap.size/\Hid (xw (l.take m) V.before=some T)/\Hid (yO lo wr b (k+1,i,0) P.bb T)/\Hid (P6 lo (onT (·=(k+1,i,0))) w own wr b)/\Hid (Py wr g c 301)/\Hid (PF w.heap.size wr (.slice ct l.length cb) l)) (fun i _=>l.length-(intOf i).toNat)
 case atStart=>exact⟨0,V.before,own,zx _,rfl,cs,rfl,b9,b8,bK,a8⟩
 case round=>
  clear b8 b9 bK a8;obtain⟨m,T,b,hm,rfl,bC,HA,HT,HM,HG,aM⟩:=hrel;by_cases ap:m<l.length
  ·obtain⟨go,bs,x,y,z,t,bS,J,aT,aS,aK⟩:=aM.out.cell m ap;simp only[Value.slice.injEq] at t;have ar:=t.1;clear t;subst ar;obtain⟨Tm,aL,bR⟩:=E7 l V.before bN m aH.out;rw[HA.out] at aL;obtain rfl:T=Tm:=by simpa using aL
   obtain⟨cc,aV⟩:=bR ap;rw[J] at aV;have cm:=Px cc;have cf:=Px aV;clear aL bR aV cc J;obtain⟨Y,N,B,s,G,M,E,C⟩:=ac.out.cells HG.out;have ay:=Py.new wr #[.int .i64 x,.int .i64 y,.int .i64 z] 165;have h:Hid (∀W,Below wr.heap.size wr W->Calls prog 163 #[.pointer (some ⟨P.bb,0,none⟩),.agg #[.int .i64 x,.int .i64 y,.int .i64 z],.int .i64 0] W fun e w'=>e=.returned (.bool (addP T [x,y,z] 0).2)/\yO lo w' (ext b W.heap.size (k+1,i,0)) (k+1,i,0) P.bb (addP T [x,y,z] 0).1/\P6 lo (onT (·=(k+1,i,0))) W b w' (ext b W.heap.size (k+1,i,0))):=fun W hW=>tT W b (k+1,i,0) P.bb T x y z 0 (HT.out.below hW) cm.out;clear B s G E C;go_wp2;go_region_held3 (fun w'=>w'.cell? ⟨g,o+3,none⟩=some (.pointer (some ⟨P.bb,0,none⟩))/\w'.cell? ⟨wr.heap.size,0,none⟩=some (.int .i64 x)/\w'.cell? ⟨wr.heap.size,1,none⟩=some (.int .i64 y)/\w'.cell? ⟨wr.heap.size,2,none⟩=some (.int .i64 z)) (first|go_keep|(go_simp;done)) (first|(go_at_call 163;refine(h.out _ (by exact(by go_grown))).mono ?_;rintro e w4 ⟨rfl,a3,H⟩;have bQ:=(HG.out.below (show Below wr.heap.size wr _ from(by go_grown))).mod H (qZ (by decide) _);have bi:=(ay.drew).mod H (qZ (by decide) _);obtain⟨b1,bx⟩:=bi.rules;obtain⟨_,_,_,_,_,bw,_,_⟩:=ac.out.cells bQ))
   have bD:=HM.out.trans ((P6.of b (show Below wr.heap.size wr _ from(by go_grown))).trans H);have ck:=(aM.out.below' (show Below wr.heap.size wr _ from(by go_grown))).mod H (qZ (by decide));have ci:=bD.size;generalize (addP T [x,y,z] 0).2=cD at *;clear bi b1 bx bw ay H aT aS aK h;go_wp2;go_roundw
   case rel=>exact⟨m+1,_,_,by omega,by go_num,ci,cf,a3,bD,bQ,ck⟩
   case measure=>simp[intOf];omega
  ·have af:l.take m=l:=xi (by omega);rw[af,aH.out] at HA;obtain rfl:bN=T:=by have:=HA.out;simpa using this
   clear HA af hm aM aH;obtain⟨R,n,a1⟩:=HV.out.qg.qx;have ao:=Px a1;obtain⟨Y,N,B,s,G,M,E,C⟩:=ac.out.cells HG.out;rw[a1] at s;have aP:Hid (yh lo wr (.slice R V.lit.qg.length n) V.lit.qg):=by have q:=HV.out.qg.mod HM.out (qZ (by decide));rw[a1] at q;exact q
   have aY:=Px (HV.out.all.onT HM.out (by simp));have aW:=Px (HR.out.mod HM.out (qZ (by decide)));have cl:=Ap V.lit;have HD:Hid (∀W,Below wr.heap.size wr W->Calls prog 212 #[.agg #[.int .i64 V.lit.pred,.slice R V.lit.qg.length n]] W fun e w'=>e=.returned (.int .i64 (yM V.lit:Nat))/\Below W.heap.size W w'):=fun W hW=>o9 W _ V.lit.pred V.lit.qg (aP.out.below hW);have HN:=Px fun W=>iu W wd (yM V.lit) cx (by omega);clear a1 M C cl;generalize bW:yM V.lit=dl at *;clear bW;go_wp2;go_region_held3 (fun w'=>w'.cell? ⟨g,o,none⟩=some (.int .i64 V.lit.pred)/\w'.cell? ⟨g,o+1,none⟩=some (.slice R V.lit.qg.length n)/\w'.cell? ⟨g,o+2,none⟩=some (.int .i64 wd)) (first|go_keep|(go_simp;done)) (first|(go_at_call 212;refine(HD.out _ (by exact(by go_grown))).mono ?_;rintro e K ⟨rfl,al⟩;have j:Below wr.heap.size wr K:=(zP (by go_grown) al (zf _));have aj:=HG.out.below j;obtain⟨_,_,ai,L,cd,_,_,_⟩:=ac.out.cells aj;rw[ao.out] at L)|(go_at_call 119;refine(HN.out _).mono ?_;rintro e w3 ⟨tf,cC,rfl,bE,ax⟩;have aq:=aj.below ax;obtain⟨bH,b6,aX,aB,ca,_,bu,_⟩:=ac.out.cells aq;rw[ao.out] at aB))
   have bm:lo<=K.heap.size:=by have:=j.size;have:=HM.out.size;omega
   have t:=HM.out.old g a2.lt;have bL:fm lo b0 w (w3.setCell ⟨g,o+4,none⟩ (.pointer (some ⟨tf,0,none⟩))) own (ext b K.heap.size (k+1,i,1)) k i g (c.setIfInBounds (o+4) (.pointer (some ⟨tf,0,none⟩))) V.lit P.bb tf P.ab bN (yR wd dl) V.all (.slice R V.lit.qg.length n) (.slice bU a.length aA) a:=by
    have am:zd [g] w3 (w3.setCell ⟨g,o+4,none⟩ (.pointer (some ⟨tf,0,none⟩))):=zd.set _ _ _ _;have au:=PN.box aq;have bn:=P3 j ax;have bg:P6 lo (fun _ _=>False) K b w3 (ext b K.heap.size (k+1,i,1)):=P6.extNew b (k+1,i,1) ax;have c1:ext b K.heap.size (k+1,i,1) g=own g:=by rw[gR _ _ _ _ (by have:=HM.out.size;have:=j.size;have:=a2.lt;omega)];exact t
    refine⟨?_,?_,?_,?_,?_,?_,?_⟩
    ·exact((HT.out.below j).mod bg (fun _ _=>id)).saveT am au (by decide)
    ·exact(zY.new b (k+1,i,1) bE bm).saveT am au (by decide)
    ·exact((aY.out.below j).mod bg (fun _ _=>id)).saveT am au (by decide)
    ·exact((aP.out.below bn)).saveT am au (by decide)
    ·exact((HM.out.one (ρg:=own g)).trans ((P6.of b j).trans (P6.extNew b (k+1,i,1) ax))).trans (P6.set _ aq ch (ze ⟨rfl,c1⟩) _ _)
    ·exact aq.set _ _
    ·exact⟨yB (zC aW.out.1 bn) am au (by decide),aW.out.2⟩
   have O:=Px (ac.out.set tf);generalize bZ:c.setIfInBounds (o+4) (.pointer (some ⟨tf,0,none⟩))=c2 at *;have cu:=Px bZ;clear bZ;have aO:=Px bL;clear bL;generalize ext b K.heap.size (k+1,i,1)=own2 at *;generalize w3.setCell ⟨g,o+4,none⟩ (.pointer (some ⟨tf,0,none⟩))=w5 at *;clear aX aB ca bu bH b6 ax bE aq aj j ai L cd HT aY aP aW HM HG HD HN t bm Y N B s G E;have b4:=aO.out.mod.size;go_wp2;go_loopw [42] (fun cq wr=>∃(m:Nat) (F A:zi) (own2:Nat->zn),m<=a.length/\cq=.int .i64 m/\w.heap.size<=wr.heap.size/\Hid (xw ((a.take m).filterMap (xy V.lit)) (yR wd dl)=some F)/\Hid (xw ((a.take m).filterMap (xy V.lit)) V.all=some A)/\Hid (fm lo b0 w wr own own2 k i g c2 V.lit P.bb tf P.ab bN F A (.slice R V.lit.qg.length n) (.slice bU a.length aA) a)) (fun i _=>a.length-(intOf i).toNat)
   case atStart=>exact⟨0,_,_,own2,zx _,rfl,b4,rfl,rfl,aO⟩
   case round=>
    clear aO b4;obtain⟨m,F,A,own2,hm,rfl,bC,HF,HA,Q⟩:=hrel;by_cases ap:m<a.length
    ·obtain⟨go,bs,x,y,z,t,bS,J,aT,aS,aK⟩:=Q.out.rows.cell m ap;simp only[Value.slice.injEq] at t;have ar:=t.1;clear t;subst ar;have Z:Hid ((a.take (m+1)).filterMap (xy V.lit)=(a.take m).filterMap (xy V.lit)++(xy V.lit [x,y,z]).toList):=by
      rw[Hid,yP ap,rF,J];cases hq:xy V.lit [x,y,z]<;>simp[hq]
     have aI:Hid (a.filterMap (xy V.lit)=(a.take (m+1)).filterMap (xy V.lit)++(a.drop (m+1)).filterMap (xy V.lit)):=by rw[Hid,←rF,qU]
     obtain⟨F1,b5⟩:=iO _ _ _ _ (by have q:=bO.out;rw[aI.out] at q;exact q);obtain⟨A1,ce⟩:=iO _ _ _ _ (by have q:=bh.out;rw[aI.out] at q;exact q);have bT:=Px b5;have bJ:=Px ce;clear b5 ce aI J;have bz:Hid (∀W,Below wr.heap.size wr W->Calls prog 213 #[.agg #[.int .i64 V.lit.pred,.slice R V.lit.qg.length n],.agg #[.int .i64 x,.int .i64 y,.int .i64 z]] W fun r w'=>(∃I v D:Nat,r=.returned (.tuple #[.agg #[.int .i64 (I:Nat),.int .i64 (v:Nat),.int .i64 (D:Nat)],.bool (xy V.lit [x,y,z]).isSome])/\[I,v,D]=(xy V.lit [x,y,z]).getD [0,0,0])/\Below W.heap.size W w'):=fun W hW=>MU W _ V.lit.pred V.lit.qg x y z (Q.out.qg.below hW);generalize xy V.lit [x,y,z]=om at *;obtain⟨Y,N,B,s,G,M,E,C⟩:=O.out.cells Q.out.box;rw[ao.out] at s;have ay:=Py.new wr #[.int .i64 x,.int .i64 y,.int .i64 z] 165;clear G M E C;go_wp2;go_cut [8,9] from 46 to 54 (fun s8 s9 wx=>N8 wr wx om s8 s9)
     case first=>
      go_region_held3 (fun w'=>w'.cell? ⟨g,o,none⟩=some (.int .i64 V.lit.pred)/\w'.cell? ⟨g,o+1,none⟩=some (.slice R V.lit.qg.length n)/\w'.cell? ⟨wr.heap.size,0,none⟩=some (.int .i64 x)/\w'.cell? ⟨wr.heap.size,1,none⟩=some (.int .i64 y)/\w'.cell? ⟨wr.heap.size,2,none⟩=some (.int .i64 z)) (first|(exact⟨(Below.cell (p:=⟨g,o,none⟩) (show Below (wr.heap.size+1) K _ from(by go_grown)) (show g<wr.heap.size+1 by omega)).trans ai,(Below.cell (p:=⟨g,o+1,none⟩) (show Below (wr.heap.size+1) K _ from(by go_grown)) (show g<wr.heap.size+1 by omega)).trans L,(Below.cell (p:=⟨wr.heap.size,0,none⟩) (show Below (wr.heap.size+1) K _ from(by go_grown)) (show wr.heap.size<wr.heap.size+1 by omega)).trans ag,(Below.cell (p:=⟨wr.heap.size,1,none⟩) (show Below (wr.heap.size+1) K _ from(by go_grown)) (show wr.heap.size<wr.heap.size+1 by omega)).trans az,(Below.cell (p:=⟨wr.heap.size,2,none⟩) (show Below (wr.heap.size+1) K _ from(by go_grown)) (show wr.heap.size<wr.heap.size+1 by omega)).trans av⟩)|go_keep|(go_simp;done)) (first|(go_at_call 213;refine(bz.out _ (by exact(by go_grown))).mono ?_;rintro e K ⟨⟨I,v,D,rfl,aa⟩,al⟩;have j:Below wr.heap.size wr K:=(zP (by go_grown) al (zf _));have aj:=Q.out.box.below j;obtain⟨_,_,ai,L,_,_,_,_⟩:=O.out.cells aj;rw[ao.out] at L;have bt:=Px aa;clear aa;have a7:=ay.below (show Below (wr.alloc (.cells #[.int .i64 x,.int .i64 y,.int .i64 z] 165)).heap.size (wr.alloc (.cells #[.int .i64 x,.int .i64 y,.int .i64 z] 165)) K from zP (by go_grown) al (zf _));have cy:wr.heap.size+1<=K.heap.size:=a7.lt;obtain⟨u,cz⟩:=a7.rules;have ag:=u 0;have az:=u 1;have av:=u 2;clear u;simp only[lD,dK,lf] at ag az av;(first|((with_reducible refine Py.carry (Py.drew (Py.newAt (wr.alloc (.cells #[.int .i64 x,.int .i64 y,.int .i64 z] 165)) (wr.heap.size+1) #[.int .i64 0,.int .i64 0,.int .i64 0] 165 (World.size_alloc _ _).symm)) al ?_);intro ba;obtain⟨c8,c5,c9⟩:=ba.boxed)|skip)))
      all_goals
       go_wp2_with fail
       go_meet
       case rel=>first|exact⟨K.heap.size,I,v,D,rfl,rfl,bt.out,by omega,Py.new _ _ _,zP j (by go_grown) (zf _)⟩|exact⟨wr.heap.size+1,I,v,D,rfl,rfl,bt.out,by omega,NT ba I v D,((j.setCell (by simp) _).setCell (by simp) _).setCell (by simp) _⟩
     case rest=>
      clear B s N ay aT aS aK bz;obtain⟨fb,I,v,D,rfl,rfl,aa,cg,b7,aG⟩:=hcut;have aw:=Px (Q.out.below aG);have bG:w.heap.size<=wc.heap.size:=by have:=aG.size;omega
      have a5:=Px b7;clear Q aG b7;cases om with
      |none=>
       clear aa;simp only[Option.toList_none,qE] at Z;simp only[gd];go_wp2;go_roundw
       case rel=>exact⟨m+1,F,A,own2,by omega,by go_num,bG,by rw[Hid,Z.out];exact HF.out,by rw[Hid,Z.out];exact HA.out,aw⟩
       case measure=>simp[intOf];omega
      |some f=>
       simp only[ux] at aa;subst aa;simp only[Option.toList_some] at Z;simp only[jG];obtain⟨Fm,ad,an,bc⟩:=iw _ _ _ _ (by have q:=bT.out;rw[Z.out] at q;exact q);obtain⟨Am,aJ,bX,bf⟩:=iw _ _ _ _ (by have q:=bJ.out;rw[Z.out] at q;exact q);rw[HF.out] at ad;rw[HA.out] at aJ;obtain rfl:F=Fm:=by simpa using ad
       obtain rfl:A=Am:=by simpa using aJ
       have aZ:=Px bc;have b3:=Px bf;have cw:=Px an;have cv:=Px bX;clear ad aJ bc bf an bX;obtain⟨Y,N,B,s,G,M,E,C⟩:=O.out.cells aw.out.box;obtain⟨a4,c0⟩:=a5.out.rules;have bY:=a4 0;have ad:=a4 1;have an:=a4 2;simp only[lD,dK,lf] at bY ad an;have cr:=a5.out.lt;clear a4 c0 B s G M;have h:Hid (∀W,Below wc.heap.size wc W->Calls prog 163 #[.pointer (some ⟨tf,0,none⟩),.agg #[.int .i64 I,.int .i64 v,.int .i64 D],.int .i64 0] W fun e w'=>e=.returned (.bool (addP F [I,v,D] 0).2)/\yO lo w' (ext own2 W.heap.size (k+1,i,1)) (k+1,i,1) tf (addP F [I,v,D] 0).1/\P6 lo (onT (·=(k+1,i,1))) W own2 w' (ext own2 W.heap.size (k+1,i,1))):=fun W hW=>tT W own2 (k+1,i,1) tf F I v D 0 (aw.out.qo.below hW) cw.out;go_wp2;go_region_held3 (fun w'=>w'.cell? ⟨g,o+4,none⟩=some (.pointer (some ⟨tf,0,none⟩))/\w'.cell? ⟨fb,0,none⟩=some (.int .i64 I)/\w'.cell? ⟨fb,1,none⟩=some (.int .i64 v)/\w'.cell? ⟨fb,2,none⟩=some (.int .i64 D)) (first|go_keep|(go_simp;done)) (first|(go_at_call 163;refine(h.out _ (by exact(by go_grown))).mono ?_;rintro e w4 ⟨rfl,a3,H⟩;have ae:Below wc.heap.size wc _:=(show Below wc.heap.size wc wc.drew from(by go_grown));have ak:=aw.out.addF ae a3 H;have a6:=(a5.out.below ae).mod H (qZ (by decide) _);obtain⟨X,bd⟩:=a6.rules;have bI:=X 0;have bp:=X 1;have bV:=X 2;clear X;simp only[lD,dK,lf] at bI bp bV;obtain⟨_,_,_,_,_,_,c3,c6⟩:=O.out.cells ak.box))
       have cA:=ak.mod.size;have c7:=ak.box.lt;have c4:=a6.lt;have aU:=Px ak;have cj:=Px a6;rw[←aZ.out] at aU;generalize (addP F [I,v,D] 0).2=bF at *;generalize ext own2 wc.drew.heap.size (k+1,i,1)=U at *;clear ak a6 a3 H aw a5 E C bY ad an Y N cr ae h aZ bd bG cg;have h:Hid (∀W,Below w4.heap.size w4 W->Calls prog 163 #[.pointer (some ⟨P.ab,0,none⟩),.agg #[.int .i64 I,.int .i64 v,.int .i64 D],.int .i64 0] W fun e w'=>e=.returned (.bool (addP A [I,v,D] 0).2)/\yO lo w' (ext U W.heap.size (k+1,i,2)) (k+1,i,2) P.ab (addP A [I,v,D] 0).1/\P6 lo (onT (·=(k+1,i,2))) W U w' (ext U W.heap.size (k+1,i,2))):=fun W hW=>tT W U (k+1,i,2) P.ab A I v D 0 (aU.out.all.below hW) cv.out;go_wp2;go_region_held3 (fun w'=>w'.cell? ⟨g,o+5,none⟩=some (.pointer (some ⟨P.ab,0,none⟩))/\w'.cell? ⟨fb,0,none⟩=some (.int .i64 I)/\w'.cell? ⟨fb,1,none⟩=some (.int .i64 v)/\w'.cell? ⟨fb,2,none⟩=some (.int .i64 D)) (first|go_keep|(go_simp;done)) (first|(go_at_call 163;refine(h.out _ (by exact(by go_grown))).mono ?_;rintro e w6 ⟨rfl,bP,aQ⟩;have ae:Below w4.heap.size w4 _:=(show Below w4.heap.size w4 w4.drew from(by go_grown));have a0:=aU.out.addA ae bP aQ;have bo:=(cj.out.below ae).mod aQ (qZ (by decide) _);obtain⟨S,bM⟩:=bo.rules;have aE:=S 0;have a9:=S 1;have aC:=S 2;clear S;simp only[lD,dK,lf] at aE a9 aC;obtain⟨_,_,_,_,_,_,bv,br⟩:=O.out.cells a0.box))
       rw[←b3.out] at a0;have cn:=a0.mod.size;generalize (addP A [I,v,D] 0).2=bA at *;clear bP aQ h b3 bo aE a9 aC bv br bM;go_wp2;go_roundw
       case rel=>exact⟨m+1,F1,A1,_,by omega,by go_num,cn,bT,bJ,a0⟩
       case measure=>simp[intOf];omega
    ·have af:a.take m=a:=xi (by omega);rw[af,bO.out] at HF;rw[af,bh.out] at HA;obtain rfl:fN=F:=by have:=HF.out;simpa using this
     obtain rfl:aN=A:=by have:=HA.out;simpa using this
     clear HF HA af;go_wp2
     (try simp only[Exit.inBlock,Exit.then])
     have h2:=Q.out;refine zK (results_none rfl _ _ _) rfl ⟨rfl,tf,own2,?_,?_,h2.mod⟩
     ·rw[co.out];exact⟨by show yh lo wr P.tv V.lit.qg;rw[ao.out];exact h2.qg,h2.before,h2.qo,h2.all⟩
     ·rw[cu.out];exact h2.box
end
section
variable {lo:Nat}{w:World}{rb wd mr mx:Nat}{R:zw}
structure xL where
 rv:Value
 tbs:List Nat
 fv:Value
 fvs:List Value
def PH(a:List Nat):List Value:=a.map pt
structure zW (lo:Nat) (w:World) (own:Nat->zn) (rb:Nat) (R:zw) (wd mr mx:Nat) (Q:xL):Prop where
 low:lo<=rb
 box:Py w rb #[Q.rv,.int .i64 R.count,.int .i64 R.qw,.int .i64 R.jf,.int .i64 wd,.int .i64 mr,.int .i64 mx,Q.fv] 214
 rows:w.ownsRow lo 162 1 Q.rv R.rows.length (PH Q.tbs)
 tlen:Q.tbs.length=R.rows.length
 tries:∀p (_:p<R.rows.length) (_:p<Q.tbs.length),yO lo w own (0,p,0) Q.tbs[p] R.rows[p]
 qo:w.ownsRow lo 161 1 Q.fv R.qo.length Q.fvs
 flen:Q.fvs.length=R.qo.length
 jl:∀p (_:p<R.qo.length) (_:p<Q.fvs.length),PF lo w Q.fvs[p] R.qo[p]/\∀b,Q.fvs[p].ownBlock=some b->own b=(0,p,1)
 few:R.rows.length<=1000/\R.qo.length<=1000/\R.count<=1048577/\R.qw<=1048576
 small:wd<=1000/\mr<=1048576/\mx<=1048576
theorem PF.modR{d:Nat}{ok:TypeId->zn->Prop}{e:World}{own c:Nat->zn}{v:Value}{a:List zk}(h:PF d w v a)(p:P6 lo ok w own e c)(f:∀b,v.ownBlock=some b->¬ok 165 (own b)):PF d e v a:=⟨pE h.1 p f,h.2⟩
theorem zW.mod{ok:TypeId->zn->Prop}{w e:World}{own c:Nat->zn}{rb:Nat}{R:zw}{wd mr mx:Nat}{Q:xL}(h:zW lo w own rb R wd mr mx Q)(p:P6 lo ok w own e c)(i:∀ρ,¬ok 214 ρ)(f:∀ρ,¬ok 162 ρ)(k:∀ρ,¬ok 161 ρ)(g:∀q,¬ok 165 (0,q,1))(j:∀q t,¬Qp t->¬ok t (0,q,0)):zW lo e c rb R wd mr mx Q:=by
 refine⟨h.low,h.box.mod p (i _),ve h.rows p f,h.tlen,fun q a b=>(h.tries q a b).mod p (j q),ve h.qo p k,h.flen,fun q a b=>⟨(h.jl q a b).1.modR p fun x d=>by rw[(h.jl q a b).2 x d];exact g q,fun x d=>?_⟩,h.few,h.small⟩;rw[p.old x (yU (h.jl q a b).1.1 d)];exact(h.jl q a b).2 x d
theorem zW.below{a:World}{own:Nat->zn}{Q:xL}(h:zW lo w own rb R wd mr mx Q)(b:Below w.heap.size w a):zW lo a own rb R wd mr mx Q:=h.mod (P6.of (ok:=fun _ _=>False) own b) (fun _=>id) (fun _=>id) (fun _=>id) (fun _=>id) (fun _ _ _=>id)
theorem zW.at{own:Nat->zn}{Q:xL}(h:zW lo w own rb R wd mr mx Q):rb<w.heap.size/\(∀o,w.frozen? ⟨rb,o,none⟩=false)/\w.cell? ⟨rb,0,none⟩=some Q.rv/\w.cell? ⟨rb,1,none⟩=some (.int .i64 R.count)/\w.cell? ⟨rb,2,none⟩=some (.int .i64 R.qw)/\w.cell? ⟨rb,3,none⟩=some (.int .i64 R.jf)/\w.cell? ⟨rb,4,none⟩=some (.int .i64 wd)/\w.cell? ⟨rb,5,none⟩=some (.int .i64 mr)/\w.cell? ⟨rb,6,none⟩=some (.int .i64 mx)/\w.cell? ⟨rb,7,none⟩=some Q.fv:=by
 obtain⟨a,b⟩:=h.box.rules;exact⟨h.box.lt,b,a 0,a 1,a 2,a 3,a 4,a 5,a 6,a 7⟩
theorem zW.trie{own:Nat->zn}{Q:xL}(h:zW lo w own rb R wd mr mx Q)(p:Nat)(f:p<R.rows.length)(b:p<Q.tbs.length):∃g a,Q.rv=.slice (some ⟨g,0,none⟩) R.rows.length a/\g<w.heap.size/\w.cell? ⟨g,p,none⟩=some (.pointer (some ⟨Q.tbs[p],0,none⟩)):=by
 obtain⟨g,a,d,_,c,e⟩:=yC h.rows (by omega);exact⟨g,a,d,c,e p _ (by simp[PH,b,pt])⟩
theorem zW.frow{own:Nat->zn}{Q:xL}(h:zW lo w own rb R wd mr mx Q)(p:Nat)(f:p<R.qo.length)(b:p<Q.fvs.length):∃g a,Q.fv=.slice (some ⟨g,0,none⟩) R.qo.length a/\g<w.heap.size/\w.cell? ⟨g,p,none⟩=some Q.fvs[p]:=by
 obtain⟨g,a,d,_,c,e⟩:=yC h.qo (by omega);exact⟨g,a,d,c,e p _ (by simp[b])⟩
theorem Pp:(prog.info? 161).map (fun i=>(i.zero,i.size,i.bytes))=some (some (.slice none 0 0),1,24):=by kernel_rfl
theorem sI(w:World)(n:Nat)(T:TypeId)(z:Value)(b:n<=maxLen):(w.alloc (.cells (madeCells #[z] n) T)).ownsRow w.heap.size T 1 (.slice (some ⟨w.heap.size,0,none⟩) n n) n (List.replicate n z):=by
 refine⟨by simp,ze ⟨w.heap.size,n,madeCells #[z] n,rfl,zf _,?_,zf _,b,by rw[size_madeCells];omega,?_⟩⟩
 ·show(w.heap.push _)[w.heap.size]?=_;simp
 ·apply mp;intro i;by_cases a:i<n
  ·simp[a,madeCells,Nat.mod_one]
  ·simp[List.getElem?_take,a]
def LG(lo:Nat)(w:World)(own:Nat->zn)(rb:Nat)(R:zw)(wd mr mx:Nat)(Q:xL)(e:Ending)(b:World):Prop:=e=.returned (.tuple #[])/\∃c a,zW lo b own rb (vX R) wd mr mx ⟨Q.rv,Q.tbs,c,a⟩/\P6 lo (kX [214]) w own b own
theorem Q5(w:World)(own:Nat->zn)(rb:Nat)(R:zw)(wd mr mx:Nat)(Q:xL)(h:zW lo w own rb R wd mr mx Q)(r:lo<=w.heap.size):
  Calls prog 120 #[.pointer (some ⟨rb,0,none⟩)] w fun e z=>LG lo w own rb R wd mr mx Q e z:=by
 obtain⟨G,D,m,E,s⟩:=info_parts Pp;obtain⟨T,O,M,S,J,I,L,U,N,K⟩:=h.at;obtain⟨y,t,B⟩:=zs h.rows;have l:=h.few.1;have H:=Px h;have C:=fun W:World=>run_make (P:=prog) (w:=W) 212 161 G _ underlying212 D m .i64 .i64 (R.rows.length:Int) (R.rows.length:Int) (by omega) (Int.le_refl _) (by rw[s];omega) (by omega);generalize F:R.rows.length=n at *;have v:=Px F;go_enter func120,ntmps120;go_wp2;refine zK (results_none rfl _ _ _) rfl ⟨rfl,.slice (some ⟨w.heap.size,0,none⟩) n n,List.replicate n (.slice none 0 0),?_,?_⟩
 ·have k:zd [rb] w (w.setCell ⟨rb,7,none⟩ (.slice (some ⟨w.heap.size,0,none⟩) n n)):=zd.set _ _ _ _;have u:=PN.box H.out.box;have j:(w.setCell ⟨rb,7,none⟩ (.slice (some ⟨w.heap.size,0,none⟩) n n)).heap.size=w.heap.size:=by simp[World.setCell]
  have p:=H.out.box.set 7 (.slice (some ⟨w.heap.size,0,none⟩) n n);have g:=yB H.out.rows k u (by decide);have o:=fun q a b=>(H.out.tries q a b).saveT k u (by decide);have d:=sI (w.setCell ⟨rb,7,none⟩ (.slice (some ⟨w.heap.size,0,none⟩) n n)) n 161 (.slice none 0 0) (by unfold maxLen;omega);rw[j] at d;have f:Below (w.setCell ⟨rb,7,none⟩ (.slice (some ⟨w.heap.size,0,none⟩) n n)).heap.size (w.setCell ⟨rb,7,none⟩ (.slice (some ⟨w.heap.size,0,none⟩) n n)) ((w.setCell ⟨rb,7,none⟩ (.slice (some ⟨w.heap.size,0,none⟩) n n)).alloc (.cells (madeCells #[.slice none 0 0] n) 161)):=(by go_grown);have i:(vX R).qo=List.replicate n []:=by rw[vX,v.out]
  have c:(vX R).qo.length=n:=by rw[i,List.length_replicate]
  refine⟨H.out.low,by simpa [vX] using p.below f,zC g f,H.out.tlen,fun q a b=>(o q a b).below f,by rw[c];exact yq d r,by rw[c];simp,fun q a b=>?_,⟨H.out.few.1,by rw[c];exact l,H.out.few.2.2⟩,H.out.small⟩;simp only[i,tO];exact⟨⟨yI _ _ _ _,by simp⟩,fun x A=>by cases A⟩
 ·have j:(w.setCell ⟨rb,7,none⟩ (.slice (some ⟨w.heap.size,0,none⟩) n n)).heap.size=w.heap.size:=by simp[World.setCell]
  exact(P6.set own H.out.box H.out.low (show kX [214] 214 (own rb) from xO.2 rfl) 7 _).trans (P6.of own (by go_grown))
theorem Ez(w:World)(own:Nat->zn)(rb:Nat)(R:zw)(wd mr mx:Nat)(Q:xL)(p:Nat)(h:zW lo w own rb R wd mr mx Q)(s:p<R.rows.length)(b:p<Q.tbs.length):
  Calls prog 205 #[.pointer (some ⟨rb,0,none⟩),.int .i64 p] w fun e f=>e=.returned (.pointer (some ⟨Q.tbs[p],0,none⟩))/\f=w:=by
 obtain⟨y,v,m,o,i,d,k,r,n,j⟩:=h.at;obtain⟨g,q,a,x,u⟩:=h.trie p s b;rw[a] at m;have l:(p:Int)<(R.rows.length:Int):=by omega
 have c:=h.few.1;clear h a o i d k r n j;generalize Q.tbs[p]=t at *;go_enter func205,ntmps205;go_wp2;go_ret;exact⟨rfl,rfl⟩
def tZ(p:Nat):TypeId->zn->Prop:=fun t ρ=>t=165/\ρ=(0,p,1)
def fx(p:Nat):TypeId->zn->Prop:=fun t ρ=>(¬Qp t/\ρ=(0,p,0))∨t=214∨t=161∨tZ p t ρ
theorem zW.setTrie{f:World}{own c:Nat->zn}{Q:xL}{p:Nat}{T:zi}(h:zW lo w own rb R wd mr mx Q)(k:p<R.rows.length)(j:p<Q.tbs.length)(i:yO lo f c (0,p,0) Q.tbs[p] T)(m:P6 lo (onT (·=(0,p,0))) w own f c):zW lo f c rb {R with rows:=R.rows.set p T} wd mr mx Q:=by
 have d:(R.rows.set p T).length=R.rows.length:=by simp
 refine⟨h.low,h.box.mod m (qZ (by decide) _),by rw[d];exact ve h.rows m (qZ (by decide)),by rw[d];exact h.tlen,fun q a b=>?_,ve h.qo m (qZ (by decide)),h.flen,fun q a b=>⟨(h.jl q a b).1.mod m (qZ (by decide)),fun x g=>?_⟩,by rw[d];exact h.few,h.small⟩
 ·by_cases e:q=p
  ·subst e;simp only[mW];exact i
  ·simp only[mA (Ne.symm e)];exact(h.tries q (by simpa using a) b).onT m (by simp[e])
 ·rw[m.old x (yU (h.jl q a b).1.1 g)];exact(h.jl q a b).2 x g
theorem zW.rebox{j:World}{own:Nat->zn}{R':zw}{Q:xL}(h:zW lo w own rb R wd mr mx Q)(hs:zd [rb] w j)(n:Py j rb #[Q.rv,.int .i64 R'.count,.int .i64 R'.qw,.int .i64 R'.jf,.int .i64 wd,.int .i64 mr,.int .i64 mx,Q.fv] 214)(l:R'.rows=R.rows)(k:R'.qo=R.qo)(m:R'.count<=1048577/\R'.qw<=1048576):zW lo j own rb R' wd mr mx Q:=by
 have f:=PN.box h.box;obtain⟨i,e,c,d,g⟩:=R';simp only at l k;subst l;subst k;exact⟨h.low,n,yB h.rows hs f (by decide),h.tlen,fun q a b=>(h.tries q a b).saveT hs f (by decide),yB h.qo hs f (by decide),h.flen,fun q a b=>⟨⟨yB (h.jl q a b).1.1 hs f (by decide),(h.jl q a b).1.2⟩,(h.jl q a b).2⟩,⟨h.few.1,h.few.2.1,m⟩,h.small⟩
theorem zW.pushFresh{o:World}{own:Nat->zn}{s u:Nat}{Q:xL}{p:Nat}{v':Value}{rs:List zk}(h:zW lo w own rb R wd mr mx Q)(P:p<R.qo.length)(C:p<Q.fvs.length)(A:Q.fv=.slice (some ⟨s,0,none⟩) R.qo.length u)(I:zd Q.fvs[p].ownBlock.toList w o)(G:PF lo o v' rs)(E:v'.ownBlock=Q.fvs[p].ownBlock∨∃g,v'.ownBlock=some g/\w.heap.size<=g):
  zW lo (o.setCell ⟨s,p,none⟩ v') (ext own w.heap.size (0,p,1)) rb {R with qo:=R.qo.set p rs} wd mr mx ⟨Q.rv,Q.tbs,Q.fv,Q.fvs.set p v'⟩/\P6 lo (fx p) w own (o.setCell ⟨s,p,none⟩ v') (ext own w.heap.size (0,p,1)):=by
 have f:=h.jl p P C;have r:P6 lo (tZ p) w own o (ext own w.heap.size (0,p,1)):=⟨fun b D=>gR _ _ _ _ D,_,I,fun b D=>by
  have n:=yw D;obtain⟨c,K⟩:=qC f.1.1 n;exact⟨xb f.1.1 n,yU f.1.1 n,c,_,K,rfl,f.2 b n⟩⟩
 have B:∀{t:TypeId},t≠165->∀ρ,¬tZ p t ρ:=fun M ρ q=>M q.1;have z:=ve h.qo r (B (by decide));have d:=z;rw[A] at d;have y:=uI d p (by omega) v';obtain⟨S,v⟩:=qC d (b:=s) rfl;have k:zd [s] o (o.setCell ⟨s,p,none⟩ v'):=zd.set _ _ _ _;have m:=PN.box v;have i:(R.qo.set p rs).length=R.qo.length:=by simp
 have F:=xb d rfl;refine⟨⟨h.low,(h.box.mod r (B (by decide) _)).saveT k m (by decide),yB (ve h.rows r (B (by decide))) k m (by decide),h.tlen,fun q a b=>((h.tries q a b).mod r (fun t J q=>J (by rw[q.1];decide))).saveT k m (by decide),by rw[i,A];exact y,by rw[i];simpa using h.flen,fun q a b=>?_,⟨h.few.1,by rw[i];exact h.few.2.1,h.few.2.2⟩,h.small⟩,?_⟩
 ·by_cases e:q=p
  ·subst e;simp only[mW];refine⟨⟨yB G.1 k m (by decide),G.2⟩,fun x j=>?_⟩;rcases E with e|⟨g,e,N⟩
   ·rw[e] at j;rw[gR _ _ _ _ (yU f.1.1 j)];exact f.2 x j
   ·rw[e] at j;simp only[zr] at j;subst j;simp[ext,Nat.not_lt.2 N]
  ·simp only[mA (Ne.symm e)];have H:q<R.qo.length:=by simpa using a
   have L:q<Q.fvs.length:=by simpa using b
   have l:=h.jl q H L;refine⟨⟨yB (l.1.modR r fun x j O=>e (by have:=l.2 x j;rw[O.2] at this;simp at this;exact this.symm)).1 k m (by decide),l.1.2⟩,fun x j=>?_⟩;rw[gR _ _ _ _ (yU l.1.1 j)];exact l.2 x j
 ·exact(r.more fun t ρ q=>ze (ze (ze q))).trans (P6.set _ v F (ze (ze (zg rfl))) _ _)
def ID(lo:Nat)(w:World)(own:Nat->zn)(rb p:Nat)(R':zw)(b:Bool)(wd mr mx:Nat)(Q:xL)(e:Ending)(d:World):Prop:=e=.returned (.bool b)/\∃a c,zW lo d a rb R' wd mr mx ⟨Q.rv,Q.tbs,Q.fv,c⟩/\P6 lo (fx p) w own d a
theorem iM{R':zw}{p:Nat}{row:zk}{b:Bool}(h:jr mr R p row=some (R',b)):p<R.rows.length/\p<R.qo.length/\okT (R.rows.getD p zi.zero)=true/\R.count<=1048576/\(R.qo.getD p []).length<=1048576/\((addP (R.rows.getD p zi.zero) row R.qw).2=false/\R'={R with rows:=R.rows.set p (addP (R.rows.getD p zi.zero) row R.qw).1}/\b=true∨(addP (R.rows.getD p zi.zero) row R.qw).2=true/\R'={R with rows:=R.rows.set p (addP (R.rows.getD p zi.zero) row R.qw).1,qo:=R.qo.set p (R.qo.getD p []++[row]),count:=R.count+1}/\b=decide (R.count+1<=mr)):=by
 unfold jr at h;split at h
 ·rename_i i;obtain⟨e,c,g,d,f⟩:=i;refine⟨e,c,g,d,f,?_⟩;rcases a:addP (R.rows.getD p zi.zero) row R.qw with⟨T,_|_⟩
  ·rw[a] at h;simp only[zr,yc] at h;exact zg ⟨rfl,h.1.symm,h.2.symm⟩
  ·rw[a] at h;simp only[zr,yc] at h;exact ze ⟨rfl,h.1.symm,h.2.symm⟩
 ·cases h
theorem B3(w:World)(own:Nat->zn)(rb:Nat)(R R':zw)(wd mr mx:Nat)(Q:xL)(p x y z:Nat)(b:Bool)(h:zW lo w own rb R wd mr mx Q)(bM:lo<=w.heap.size)(hr:jr mr R p [x,y,z]=some (R',b)):
  Calls prog 121 #[.pointer (some ⟨rb,0,none⟩),.int .i64 p,.agg #[.int .i64 x,.int .i64 y,.int .i64 z]] w fun e o=>ID lo w own rb p R' b wd mr mx Q e o:=by
 obtain⟨i0,hi,bo,bm,bd⟩:=info_parts Pq;obtain⟨P,n,a8,bE,bv,c⟩:=iM hr;have ai:p<Q.tbs.length:=by rw[h.tlen];exact P
 have E:p<Q.fvs.length:=by rw[h.flen];exact n
 obtain⟨hl,hf,h0,h1,h2,h3,h4,h5,h6,h7⟩:=h.at;obtain⟨g,aR,a2,hg,hc⟩:=h.trie p P ai;obtain⟨gf,ax,a3,bS,bf⟩:=h.frow p n E;rw[a2] at h0;rw[a3] at h7;have HR:=Px h;have aA:=Px a2;have aa:=Px a3;have aC:R.rows.getD p zi.zero=R.rows[p]:=by simp[P]
 have aD:R.qo.getD p []=R.qo[p]:=by simp[n]
 rw[aC] at a8 c;rw[aD] at c bv;have HT:=Px (h.tries p P ai);have am:=Px fun W hW=>tT W own (0,p,0) Q.tbs[p] R.rows[p] x y z R.qw (HT.out.below hW) a8;have bB:(p:Int)<(R.rows.length:Int):=by omega
 have bF:(p:Int)<(R.qo.length:Int):=by omega
 have bR:=h.small.2.1;have aW:=h.few.1;have bu:=h.few.2.1;have aK:=Px fun W o au (T:zi) (hW:Below w.heap.size w W) (hT:yO lo o au (0,p,0) Q.tbs[p] T) (m:P6 lo (onT (·=(0,p,0))) W own o au)=>(HR.out.below hW).setTrie P ai hT m;have F:Hid ((addP R.rows[p] [x,y,z] R.qw).2=false/\R'={R with rows:=R.rows.set p (addP R.rows[p] [x,y,z] R.qw).1}/\b=true∨(addP R.rows[p] [x,y,z] R.qw).2=true/\R'={R with rows:=R.rows.set p (addP R.rows[p] [x,y,z] R.qw).1,qo:=R.qo.set p (R.qo[p]++[[x,y,z]]),count:=R.count+1}/\b=decide (R.count+1<=mr)):=c;have bh:=Px fun b (hb:Q.fvs[p].ownBlock=some b)=>yU (h.jl p n E).1.1 hb;clear h a2 a3 a8 c aC aD h1 h3 h4 h5 h6;have bI:Hid (Q.tbs[p]=Q.tbs[p]):=rfl;generalize br:(addP R.rows[p] [x,y,z] R.qw).1=T' at *;clear br;generalize aY:(addP R.rows[p] [x,y,z] R.qw).2=a5 at *;clear aY;have aU:=Py.new w #[.int .i64 x,.int .i64 y,.int .i64 z] 165;go_enter func121,ntmps121;go_wp2;go_region_held3 (fun o=>o.cell? ⟨rb,0,none⟩=some (.slice (some ⟨g,0,none⟩) R.rows.length aR)/\o.cell? ⟨g,p,none⟩=some (.pointer (some ⟨Q.tbs[p],0,none⟩))/\o.cell? ⟨rb,2,none⟩=some (.int .i64 R.qw)/\o.cell? ⟨w.heap.size,0,none⟩=some (.int .i64 x)/\o.cell? ⟨w.heap.size,1,none⟩=some (.int .i64 y)/\o.cell? ⟨w.heap.size,2,none⟩=some (.int .i64 z)) (first|(exact⟨a1,aM,aS,A,l,B⟩)|go_keep|(go_simp;done)) (first|(go_at_call 163;refine(am.out _ (by exact(by go_grown))).mono ?_;rintro e D ⟨rfl,aQ,ak⟩;have a4:Below w.heap.size w _:=(show Below w.heap.size w (w.alloc (.cells #[.int .i64 x,.int .i64 y,.int .i64 z] 165)).drew from(by go_grown));have ah:=aK.out _ _ _ _ a4 aQ ak;obtain⟨bq,bk,a1,b7,aS,bx,bw,b2,bc,al⟩:=ah.at;rw[aA.out] at a1;rw[aa.out] at al;have j:=(aU.drew).mod ak (qZ (by decide) _);have A:=j.rules.1 0;have l:=j.rules.1 1;have B:=j.rules.1 2;simp only[lD,dK,lf] at A l B;obtain⟨g',bD,M,bO,aM⟩:=ah.trie p (by simpa using P) ai;rw[aA.out] at M;simp only[Value.slice.injEq,zr,Addr.mk.injEq,and_true] at M;have a9:=M.1;clear M;subst a9))
 have an:P6 lo (fx p) w own D _:=(P6.of own a4).trans (ak.more fun _ _ q=>zg q);have t:Hid (zW lo D (ext own (w.alloc (.cells #[.int .i64 x,.int .i64 y,.int .i64 z] 165)).drew.heap.size (0,p,0)) rb {R with rows:=R.rows.set p T'} wd mr mx Q):=ah;have ad:Hid (P6 lo (fx p) w own D (ext own (w.alloc (.cells #[.int .i64 x,.int .i64 y,.int .i64 z] 165)).drew.heap.size (0,p,0))):=an;clear ah an aQ ak HT am aK hc h0 h2 h7 bf hl hf aU a4 aA;generalize ext own (w.alloc (.cells #[.int .i64 x,.int .i64 y,.int .i64 z] 165)).drew.heap.size (0,p,0)=Z at *;cases a5 with
 |false=>
  have c:=F.out;simp only[gx,false_and,or_false,true_and] at c;obtain⟨rfl,rfl⟩:=c;go_wp2;go_ret;exact⟨rfl,Z,Q.fvs,t.out,ad.out⟩
 |true=>
  have c:=F.out;simp only[Bool.true_eq_false,false_and,false_or,true_and] at c;have aT:=Px c.1;have b9:=Px c.2;clear c F;obtain⟨bN,bt,I,bG,J⟩:=t.out.frow p n E;rw[aa.out] at I;simp only[Value.slice.injEq,zr,Addr.mk.injEq,and_true] at I;have a9:=I.1;clear I;subst a9;have C:=(t.out.jl p n E).1.1;obtain⟨ac,s,af⟩:=zs C;rw[af] at J;have aj:Hid (Q.fvs[p]=.slice ac R.qo[p].length s):=af;rw[af] at C;clear af;have b5:Hid (∀r∈R.qo[p],r.length=3):=(t.out.jl p n E).1.2;have bL:=ad.out.size;have bH:=j.lt;have ap:=Px j;generalize ar:R.qo[p].length=fl at *;have aN:=Px ar;clear ar j bx bw bc aM;go_wp2;refine wp_region_noPanic ?_;refine iJ (S:=fun o=>o.cell? ⟨rb,7,none⟩=some (.slice (some ⟨gf,0,none⟩) R.qo.length ax)/\o.cell? ⟨gf,p,none⟩=some (.slice ac fl s)/\o.cell? ⟨w.heap.size,0,none⟩=some (.int .i64 x)/\o.cell? ⟨w.heap.size,1,none⟩=some (.int .i64 y)/\o.cell? ⟨w.heap.size,2,none⟩=some (.int .i64 z)) (d:=16) (by kernel_rfl) ⟨al,J,A,l,B⟩ (fun a=>?_);refine xP (i:=0) (v:=?v0) rfl (by kernel_rfl) (by kernel_rfl) (by kernel_rfl) (by kernel_rfl) (fun _ _ _ h=>h) (zg ⟨by rfl,?hy0⟩) a ?rest0
  case hy0=>
   intro U f;go_simp
   (try with_reducible rfl)
  refine xP (i:=1) (v:=?v1) rfl (by kernel_rfl) (by kernel_rfl) (by kernel_rfl) (by kernel_rfl) (fun _ _ _ h=>h) (zg ⟨by rfl,?hy1⟩) a ?rest1
  case hy1=>
   intro U f;go_simp
   (try with_reducible rfl)
  refine xP (i:=2) (v:=?v2) rfl (by kernel_rfl) (by kernel_rfl) (by kernel_rfl) (by kernel_rfl) (fun _ _ _ h=>h) (zg ⟨by rfl,?hy2⟩) a ?rest2
  case hy2=>
   intro U f;go_simp
   (try with_reducible rfl)
  refine xP (i:=3) (v:=?v3) rfl (by kernel_rfl) (by kernel_rfl) (by kernel_rfl) (by kernel_rfl) (fun _ _ _ h=>h) (zg ⟨by rfl,?hy3⟩) a ?rest3
  case hy3=>
   intro U f;go_simp
   (try with_reducible rfl)
  refine xP (i:=4) (v:=?v4) rfl (by kernel_rfl) (by kernel_rfl) (by kernel_rfl) (by kernel_rfl) (fun _ _ _ h=>h) (zg ⟨by rfl,?hy4⟩) a ?rest4
  case hy4=>
   intro U f;go_simp
   (try with_reducible rfl)
  refine xP (i:=5) (v:=?v5) rfl (by kernel_rfl) (by kernel_rfl) (by kernel_rfl) (by kernel_rfl) (fun _ _ _ h=>h) (zg ⟨by rfl,?hy5⟩) a ?rest5
  case hy5=>
   intro U f;go_simp
   (try with_reducible rfl)
  refine xP (i:=6) (v:=?v6) rfl (by kernel_rfl) (by kernel_rfl) (by kernel_rfl) (by kernel_rfl) (fun _ _ _ h=>h) (zg ⟨by rfl,?hy6⟩) a ?rest6
  case hy6=>
   intro U f;go_simp
   (try with_reducible rfl)
  refine xP (i:=7) (v:=?v7) rfl (by kernel_rfl) (by kernel_rfl) (by kernel_rfl) (by kernel_rfl) (fun _ _ _ h=>h) (zg ⟨by rfl,?hy7⟩) a ?rest7
  case hy7=>
   intro U f;go_simp
   (try with_reducible rfl)
  refine xP (i:=8) (v:=?v8) rfl (by kernel_rfl) (by kernel_rfl) (by kernel_rfl) (by kernel_rfl) (fun _ _ _ h=>h) (zg ⟨by rfl,?hy8⟩) a ?rest8
  case hy8=>
   intro U f;go_simp
   (try with_reducible rfl)
  refine xP (i:=9) (v:=?v9) rfl (by kernel_rfl) (by kernel_rfl) (by kernel_rfl) (by kernel_rfl) (fun _ _ _ h=>h) (zg ⟨by rfl,?hy9⟩) a ?rest9
  case hy9=>
   intro U f;go_simp
   (try with_reducible rfl)
  refine xP (i:=10) (v:=?v10) rfl (by kernel_rfl) (by kernel_rfl) (by kernel_rfl) (by kernel_rfl) (fun _ _ _ h=>h) (zg ⟨by rfl,?hy10⟩) a ?rest10
  case hy10=>
   intro U f;go_simp
   (try with_reducible rfl)
  refine xP (i:=11) (v:=?v11) rfl (by kernel_rfl) (by kernel_rfl) (by kernel_rfl) (by kernel_rfl) (fun _ _ _ h=>h) (zg ⟨by rfl,?hy11⟩) a ?rest11
  case hy11=>
   intro U f;go_simp
   (try with_reducible rfl)
  refine xP (i:=12) (v:=?v12) rfl (by kernel_rfl) (by kernel_rfl) (by kernel_rfl) (by kernel_rfl) (fun _ _ _ h=>h) (zg ⟨by rfl,?hy12⟩) a ?rest12
  case hy12=>
   intro U f;go_simp
   (try with_reducible rfl)
  refine gz (i:=13) (by kernel_rfl) rfl (fun K hK=>?_);go_simp
  have N:Below D.heap.size D (D.alloc (.cells #[.int .i64 x,.int .i64 y,.int .i64 z] 165)).drew:=(by go_grown);refine hK.out _ _ (fun _=>⟨(Below.cell (p:=⟨rb,7,none⟩) N (show rb<D.heap.size by omega)).trans al,(Below.cell (p:=⟨gf,p,none⟩) N (show gf<D.heap.size by omega)).trans J,(Below.cell (p:=⟨w.heap.size,0,none⟩) N (show w.heap.size<D.heap.size by omega)).trans A,(Below.cell (p:=⟨w.heap.size,1,none⟩) N (show w.heap.size<D.heap.size by omega)).trans l,(Below.cell (p:=⟨w.heap.size,2,none⟩) N (show w.heap.size<D.heap.size by omega)).trans B⟩) ?_;clear hK K a;refine gz (i:=14) (by kernel_rfl) rfl (fun K hK=>?_);refine dU D _ [.int .i64 x,.int .i64 y,.int .i64 z] 165 rfl (.tmp 57) (.tmp 59) 161 rfl lo 165 i0 _ 3 24 underlying161 hi bo bm bd rfl (by decide) (.slice ac fl s) fl (jq R.qo[p]) (by simp[Act.eval]) C (by exact N) D.heap.size 1 (by simp[Act.eval]) (by exact Py.drew (Py.new _ _ _)) rfl (by simp[Value.oneCell']) (by omega) (by omega) (by omega) ?_;intro v' w3 az ab ay bg bC;obtain⟨ag,L,rfl⟩:=zs az;have aE:=PN.own C;have av:=t.out.box.saveT ab aE (by decide);have ae:=av.rules.1 7;simp only[lD,dK,lf] at ae;rw[aa.out] at ae;have G:=yB t.out.qo ab aE (by decide);rw[aa.out] at G;have aq:w3.cell? ⟨gf,p,none⟩=some (.slice ac fl s):=by
   obtain⟨bQ,b6,ao,_,_,a6⟩:=yC G (show 0<R.qo.length by omega);simp only[Value.slice.injEq,zr,Addr.mk.injEq,and_true] at ao;have e:=ao.1;subst e;have:=a6 p Q.fvs[p] (by simp[E]);rw[aj.out] at this;exact this
  have aL:=qF G;have H:=ap.out.save ab (fun hm=>by
   have:=bh.out w.heap.size (by rw[aj.out];exact yw hm);omega)
  have Y:=H.rules.1 0;have V:=H.rules.1 1;have X:=H.rules.1 2;simp only[lD,dK,lf] at Y V X;have k:w3.cell? ⟨rb,7,none⟩=some (.slice (some ⟨gf,0,none⟩) R.qo.length ax)/\w3.cell? ⟨gf,p,none⟩=some (.slice ac fl s)/\w3.cell? ⟨w.heap.size,0,none⟩=some (.int .i64 x)/\w3.cell? ⟨w.heap.size,1,none⟩=some (.int .i64 y)/\w3.cell? ⟨w.heap.size,2,none⟩=some (.int .i64 z):=⟨ae,aq,Y,V,X⟩;refine hK.out _ _ (fun _=>k) ?_;clear hK K;refine xP (i:=15) (v:=?v15) rfl (by kernel_rfl) (by kernel_rfl) (by kernel_rfl) (by kernel_rfl) (fun _ _ _ h=>h) (zg ⟨by rfl,?hy15⟩) k ?rest15
  case hy15=>
   intro U f;go_simp
   (try with_reducible rfl)
  refine gz (i:=16) (by kernel_rfl) rfl (fun K hK=>?_);go_simp
  refine hK.out _ _ (fun hq=>zB rfl hq) ?_;clear hK K;refine e7 (by kernel_rfl) ?_ _;refine NoPanic.normal ?_;have hP:=zW.pushFresh (v':=.slice ag (fl+1) L) (rs:=R.qo[p]++[[x,y,z]]) t.out n E aa.out (by rw[aj.out];exact ab) ⟨by rw[yv,aN.out];simpa [jq,Qb] using az,fun r hr=>by rcases zX.1 hr with q|q;exact b5.out r q;simp at q;subst q;rfl⟩ (by rw[aj.out];exact ay);obtain⟨aI,aF⟩:=hP;have O:Hid (zW lo (w3.setCell ⟨gf,p,none⟩ (.slice ag (fl+1) L)) (ext Z D.heap.size (0,p,1)) rb {R with rows:=R.rows.set p T',qo:=R.qo.set p (R.qo[p]++[[x,y,z]])} wd mr mx ⟨Q.rv,Q.tbs,Q.fv,Q.fvs.set p (.slice ag (fl+1) L)⟩):=aI;have bi:=Px (ad.out.trans aF);clear aI aF k ae aq aL Y V X av G H a1 b7 aS b2 al A l B J bq bk t ap C az ab ay bg;generalize ext Z D.heap.size (0,p,1)=u at *;generalize w3.setCell ⟨gf,p,none⟩ (.slice ag (fl+1) L)=w5 at *;obtain⟨bz,aV,aZ,aP,b1,b3,ba,aJ,b4,bn⟩:=O.out.at;simp only at aP aJ;clear aZ b1 b3 ba b4 bn;have aw:=O.out.box.set 1 (.int .i64 ((R.count:Int)+1));have aG:zd [rb] w5 (w5.setCell ⟨rb,1,none⟩ (.int .i64 ((R.count:Int)+1))):=zd.set _ _ _ _;have aO:P6 lo (fx p) w5 u (w5.setCell ⟨rb,1,none⟩ (.int .i64 ((R.count:Int)+1))) u:=P6.set u O.out.box O.out.low (ze (zg rfl)) _ _;have a0:=O.out.rebox (R':={R with rows:=R.rows.set p T',qo:=R.qo.set p (R.qo[p]++[[x,y,z]]),count:=R.count+1}) aG (by simpa using aw) rfl rfl ⟨by show R.count+1<=1048577;omega,O.out.few.2.2.2⟩;rw[←aT.out] at a0;have aH:=Px a0;have bs:=Px (bi.out.trans aO);clear a0 aO aw aG;go_upto_region 8 with fail
  generalize w5.setCell ⟨rb,1,none⟩ (.int .i64 ((R.count:Int)+1))=w6 at *;obtain⟨bP,bK,b0,a7,bp,bb,aX,bJ,b8,bA⟩:=aH.out.at;rw[aT.out] at a7;simp only at a7;have aB:((R.count+1:Nat):Int)=(R.count:Int)+1:=by omega
  rw[aB] at a7;clear b0 bp bb aX b8 bA aP aJ bz aV aB;go_quiet (fail)
  go_wp2;go_ret;have be:decide ((R.count:Int)+1<=(mr:Int))=b:=by rw[b9.out];exact decide_eq_decide.2 (by omega)
  exact⟨by rw[←be];rfl,u,_,aH.out.below (zL (zo _ _) _),bs.out.trans (P6.of u (zL (zo _ _) _))⟩
end
section
variable {lo:Nat}{w w':World}{own':Nat->zn}
def RD:TypeId->zn->Prop:=kX [310,323]
def jQ(p:Nat):TypeId->zn->Prop:=orK (fx p) RD
theorem Aq{l:List TypeId}{t:TypeId}{ρ:zn}(h:t∈l):kX l t ρ:=h
theorem ke{l:List TypeId}{t:TypeId}(h:t∉l):∀ρ,¬kX l t ρ:=fun _ q=>h q
theorem PP.mod{ok:TypeId->zn->Prop}{w w':World}{own own':Nat->zn}{c:Nat}{J:zy}{P:xp}(h:PP lo w c J P)(m:P6 lo ok w own w' own')(j:∀ρ,¬ok 310 ρ)(e:∀ρ,¬ok 323 ρ)(l:∀ρ,¬ok 325 ρ)(g:∀ρ,¬ok 327 ρ)(d:∀ρ,¬ok 284 ρ)(i:∀x∈P.tbs,∀b∈x.2,∀t,¬Qp t->¬ok t (own b))(f:∀x∈P.bps,∀b∈x.2.2,∀t,¬Qp t->¬ok t (own b)):PP lo w' c J P:=
 ⟨h.low,h.box.mod m (j _),h.head.mod m d,ve h.qy m e,h.slen,fun k a b=>(h.tries k a b).mod m (i _ (zv b)),h.qi,ve h.bars m l,h.blen,fun k a b=>⟨(h.ji k a b).1.mod m d,(h.ji k a b).2.mod m (f _ (zv b))⟩,h.hlen,fun p a b=>⟨ve (h.je p a b).1 m g,(h.je p a b).2⟩,h.jk,h.few⟩
def nw(own:Nat->zn)(P:xp)(p:Nat):Prop:=(∀x∈P.tbs,∀b∈x.2,own b≠(0,p,0))/\(∀x∈P.bps,∀b∈x.2.2,own b≠(0,p,0))
theorem PP.add{own:Nat->zn}{n p:Nat}{J:zy}{P:xp}(h:PP lo w n J P)(m:P6 lo (fx p) w own w' own')(j:nw own P p):PP lo w' n J P/\nw own' P p:=by
 have g:∀{t:TypeId},Qp t->t≠214->t≠161->t≠165->∀ρ,¬fx p t ρ:=fun a b c d ρ q=>by
  rcases q with q|q|q|q
  ·exact q.1 a
  ·exact b q
  ·exact c q
  ·exact d q.1
 have o:∀{t:TypeId} {ρ:zn},¬Qp t->ρ≠(0,p,0)->¬fx p t ρ:=fun a b q=>by
  rcases q with q|q|q|q
  ·exact b q.2
  ·subst q;exact a (by decide)
  ·subst q;exact a (by decide)
  ·rw[q.1] at a;exact a (by decide)
 refine⟨h.mod m (g (by decide) (by decide) (by decide) (by decide)) (g (by decide) (by decide) (by decide) (by decide)) (g (by decide) (by decide) (by decide) (by decide)) (g (by decide) (by decide) (by decide) (by decide)) (g (by decide) (by decide) (by decide) (by decide)) (fun x e b f t l=>o l (j.1 x e b f)) (fun x e b f t l=>o l (j.2 x e b f)),fun x e b f=>?_,fun x e b f=>?_⟩
 ·obtain⟨k,i,rfl⟩:=vG e;rw[m.old b ((h.tries k (by rw[←h.slen];exact i) i).lt b f).2];exact j.1 _ e b f
 ·obtain⟨k,i,rfl⟩:=vG e;rw[m.old b ((h.ji k (by rw[←h.blen];exact i) i).2.lt b f).2];exact j.2 _ e b f
theorem P6.ofNext{own:Nat->zn}{e:Nat}{J:zy}{P:xp}(h:PP lo w e J P)(hs:zd (e::P.sv.ownBlock.toList) w w'):P6 lo RD w own w' own:=
 P6.ofSave own hs fun b d=>by
  rcases zu.1 d with rfl|d
  ·exact⟨h.low,h.box.lt,_,_,h.box,Aq (by decide)⟩
  ·have a:=yw d;obtain⟨c,f⟩:=qC h.qy a;exact⟨xb h.qy a,yU h.qy a,c,_,f,Aq (by decide)⟩
theorem zW.modJ{own:Nat->zn}{b:Nat}{R:zw}{wd mr mx:Nat}{Q:xL}(h:zW lo w own b R wd mr mx Q)(m:P6 lo RD w own w' own'):zW lo w' own' b R wd mr mx Q:=
 h.mod m (ke (by decide)) (ke (by decide)) (ke (by decide)) (fun _=>ke (by decide) _) (fun q t c a=>by
  rcases zu.1 a with rfl|a
  ·exact c (by decide)
  ·rcases zu.1 a with rfl|a
   ·exact c (by decide)
   ·cases a)
def tB(lo:Nat)(w:World)(own:Nat->zn)(c p:Nat)(R':zw)(b:Bool)(wd mr mx:Nat)(Q:xL)(e:Ending)(w':World):Prop:=e=.returned (.bool b)/\∃own' a,zW lo w' own' c R' wd mr mx ⟨Q.rv,Q.tbs,Q.fv,a⟩/\P6 lo (jQ p) w own w' own'
theorem BG(w:World)(own:Nat->zn)(z F:Nat)(R R':zw)(J:zy)(P:xp)(wd mr mx:Nat)(Q:xL)(p n:Nat)(b:Bool)(h:zW lo w own z R wd mr mx Q)(hj:PP lo w F J P)(E:nw own P p)(aq:lo<=w.heap.size)(hr:vj mr p n R J=some (R',b)):
  Calls prog 208 #[.pointer (some ⟨z,0,none⟩),.int .i64 p,.pointer (some ⟨F,0,none⟩)] w fun e w'=>tB lo w own z p R' b wd mr mx Q e w':=by
 have HR:=Px hr;have H0:Hid (zW lo w own z R wd mr mx ⟨Q.rv,Q.tbs,Q.fv,Q.fvs⟩/\PP lo w F J P/\nw own P p):=⟨h,hj,E⟩;have ad:Hid (P6 lo (jQ p) w own w own):=P6.refl w own;clear h hj E hr;go_enter func208,ntmps208;go_wp2;go_loopg [] n (fun k wr=>∃(t:zw) (Jk:zy) (a:Nat->zn) (H:List Value),Hid (vj mr p k t Jk=some (R',b))/\Hid (zW lo wr a z t wd mr mx ⟨Q.rv,Q.tbs,Q.fv,H⟩/\PP lo wr F Jk P/\nw a P p)/\Hid (P6 lo (jQ p) w own wr a))
 case atStart=>exact⟨R,J,own,Q.fvs,HR,H0,ad⟩
 case round=>
  clear HR H0 ad;obtain⟨t,Jk,a,H,HQ,HK,HM⟩:=hrel;have an:=HM.out.size;cases gk with
  |zero=>have q:=HQ.out;simp[vj] at q
  |succ m=>
   have q:=HQ.out;unfold vj at q;cases hn:dF m Jk with
   |none=>rw[hn] at q;cases q
   |some ar=>
    obtain⟨f,bn⟩:=ar;rw[hn] at q;have N:=Px (Rg wr F Jk P m f bn HK.out.2.1 hn);have V:Hid (∀W,PP lo W F f P->zd (F::P.sv.ownBlock.toList) wr W->(zW lo W a z t wd mr mx ⟨Q.rv,Q.tbs,Q.fv,H⟩/\PP lo W F f P/\nw a P p)/\P6 lo (jQ p) w own W a):=fun W h1 h2=>by
     have m:=P6.ofNext (own:=a) HK.out.2.1 h2;exact⟨⟨HK.out.1.modJ m,h1,HK.out.2.2⟩,HM.out.trans (m.more fun _ _ q=>ze q)⟩
    clear hn HQ;cases bn with
    |false=>
     simp only[zr,yc] at q;have HE:=Px q;clear q;go_wp2_with (first|(go_at_call 215;refine N.out.mono ?_;rintro e G ⟨rfl,g,j⟩;obtain⟨u,l⟩:=V.out _ g j;clear g j))
     obtain⟨r,Z,ac⟩:=u;have au:=Px r;have y:=Px l;have aj:=Px fun W hW=>Im W F f P (Z.below hW);obtain⟨av,ap,_,_,_,C,_,_,_,_⟩:=r.at;have ag:=r.box.set 3 (.int .i64 (IntKind.i64.wrap (t.jf+f.jf)));have ab:zd [z] G (G.setCell ⟨z,3,none⟩ (.int .i64 (IntKind.i64.wrap (t.jf+f.jf)))):=zd.set _ _ _ _;have af:P6 lo (jQ p) G a (G.setCell ⟨z,3,none⟩ (.int .i64 (IntKind.i64.wrap (t.jf+f.jf)))) a:=P6.set a r.box r.low (zg (ze (zg rfl))) _ _;have O:=r.rebox (R':={t with jf:=IntKind.i64.wrap (t.jf+f.jf)}) ab (by simpa using ag) rfl rfl r.few.2.2;rw[HE.out.1] at O;have ak:=Px O;have al:=Px (y.out.trans af);clear O af ag ab r l Z ac;have ao:=IntWalk.i64_in;refine wp_region_noPanic ?_;refine iJ (S:=fun w'=>w'.cell? ⟨z,3,none⟩=some (.int .i64 t.jf)) (d:=11) (by kernel_rfl) C (fun c=>?_);refine xP (i:=0) (v:=?v0) rfl (by kernel_rfl) (by kernel_rfl) (by kernel_rfl) (by kernel_rfl) (fun _ _ _ h=>h) (zg ⟨by rfl,?hy0⟩) c ?rest0
     case hy0=>
      intro X B;go_simp
      (try with_reducible rfl)
     refine xP (i:=1) (v:=?v1) rfl (by kernel_rfl) (by kernel_rfl) (by kernel_rfl) (by kernel_rfl) (fun _ _ _ h=>h) (zg ⟨by rfl,?hy1⟩) c ?rest1
     case hy1=>
      intro X B;go_simp
      (try with_reducible rfl)
     refine xP (i:=2) (v:=?v2) rfl (by kernel_rfl) (by kernel_rfl) (by kernel_rfl) (by kernel_rfl) (fun _ _ _ h=>h) (zg ⟨by rfl,?hy2⟩) c ?rest2
     case hy2=>
      intro X B;go_simp
      (try with_reducible rfl)
     refine xP (i:=3) (v:=?v3) rfl (by kernel_rfl) (by kernel_rfl) (by kernel_rfl) (by kernel_rfl) (fun _ _ _ h=>h) (zg ⟨by rfl,?hy3⟩) c ?rest3
     case hy3=>
      intro X B;go_simp
      (try with_reducible rfl)
     refine xP (i:=4) (v:=?v4) rfl (by kernel_rfl) (by kernel_rfl) (by kernel_rfl) (by kernel_rfl) (fun _ _ _ h=>h) (zg ⟨by rfl,?hy4⟩) c ?rest4
     case hy4=>
      intro X B;go_simp
      (try with_reducible rfl)
     refine xP (i:=5) (v:=?v5) rfl (by kernel_rfl) (by kernel_rfl) (by kernel_rfl) (by kernel_rfl) (fun _ _ _ h=>h) (zg ⟨by rfl,?hy5⟩) c ?rest5
     case hy5=>
      intro X B;go_simp
      (try with_reducible rfl)
     refine gz (i:=6) (by kernel_rfl) rfl (fun K A=>?_);go_simp
     refine(aj.out _ (by exact(zL (zo _ _) 1))).mono ?_;rintro e I ⟨rfl,rfl⟩;refine A.out _ _ (fun _=>C) ?_;clear A K;refine xP (i:=7) (v:=?v7) rfl (by kernel_rfl) (by kernel_rfl) (by kernel_rfl) (by kernel_rfl) (fun _ _ _ h=>h) (zg ⟨by rfl,?hy7⟩) c ?rest7
     case hy7=>
      intro X B;go_simp
      (try with_reducible rfl)
     refine gz (i:=8) (by kernel_rfl) rfl (fun K A=>?_);go_simp
     refine A.out _ _ (fun _=>C) ?_;clear A K;refine gz (i:=9) (by kernel_rfl) rfl (fun K A=>?_);go_simp
     refine A.out _ _ (fun _=>C) ?_;clear A K;refine gz (i:=10) (by kernel_rfl) rfl (fun K A=>?_);go_simp
     refine A.out _ _ (fun _=>C) ?_;clear A K;refine gz (i:=11) (by kernel_rfl) rfl (fun K A=>?_);go_simp
     refine A.out _ _ (fun hq=>zB rfl hq) ?_;clear A K;refine e7 (by kernel_rfl) ?_ _;refine NoPanic.normal ?_;have Y:Below (G.setCell ⟨z,3,none⟩ (.int .i64 (IntKind.i64.wrap (t.jf+f.jf)))).heap.size (G.setCell ⟨z,3,none⟩ (.int .i64 (IntKind.i64.wrap (t.jf+f.jf)))) (G.setCell ⟨z,3,none⟩ (.int .i64 (IntKind.i64.wrap (t.jf+f.jf)))).drew:=(by go_grown);have hf:=HE.out.2;go_wp2;go_ret;exact⟨by rw[←hf];rfl,a,H,ak.out.below Y,al.out.trans (P6.of a Y)⟩
    |true=>
     dsimp only at q;cases ha:jr mr t p (zF f.head f.ja) with
     |none=>rw[ha] at q;cases q
     |some ai=>
      obtain⟨R3,b3⟩:=ai;simp only[ha] at q;have ae:=Px fun W (hW:PP lo W F f P)=>Ld W F f P hW;rw[Jj] at ha;have ah:=Px fun W (hl:lo<=W.heap.size) (hW:zW lo W a z t wd mr mx ⟨Q.rv,Q.tbs,Q.fv,H⟩)=>B3 W a z t R3 wd mr mx _ p _ _ _ b3 hW hl ha;generalize Pz f.head f.ja 0=r0 at *;generalize Pz f.head f.ja 1=r1 at *;generalize Pz f.head f.ja 2=r2 at *;clear ha;cases b3 with
      |false=>
       simp only[zr,yc] at q;have HE:=Px q;clear q;go_wp2_with (first|(go_at_call 215;refine N.out.mono ?_;rintro e G ⟨rfl,g,j⟩;obtain⟨u,l⟩:=V.out _ g j;clear g j;have x:=Px u;have y:=Px l;clear u l)|(go_at_call 216;refine(ae.out _ x.out.2.1).mono ?_;rintro e I ⟨rfl,s⟩)|(go_at_call 121;refine(ah.out _ (by exact(show lo<=(I.alloc (.cells #[.int .i64 r0,.int .i64 r1,.int .i64 r2] 165)).heap.size by rw[World.size_alloc];have:=s.size;have:=y.out.size;omega)) (by exact(x.out.1.below s).below (by go_grown))).mono ?_;rintro e w4 ⟨rfl,o,U,T,L⟩))
       go_ret;have D:P6 lo (jQ p) G a w4 o:=((P6.of a s).trans (P6.of a (show Below I.heap.size I (I.alloc (.cells #[.int .i64 r0,.int .i64 r1,.int .i64 r2] 165)) from(by go_grown)))).trans (L.more fun _ _ q=>zg q);exact⟨by rw[←HE.out.2];rfl,o,U,by rw[←HE.out.1];exact T,y.out.trans D⟩
      |true=>
       have am:Hid (vj mr p m R3 f=some (R',b)):=q;clear q;go_wp2_with (first|(go_at_call 215;refine N.out.mono ?_;rintro e G ⟨rfl,g,j⟩;obtain⟨u,l⟩:=V.out _ g j;clear g j;have x:=Px u;have y:=Px l;clear u l)|(go_at_call 216;refine(ae.out _ x.out.2.1).mono ?_;rintro e I ⟨rfl,s⟩)|(go_at_call 121;refine(ah.out _ (by exact(show lo<=(I.alloc (.cells #[.int .i64 r0,.int .i64 r1,.int .i64 r2] 165)).heap.size by rw[World.size_alloc];have:=s.size;have:=y.out.size;omega)) (by exact(x.out.1.below s).below (by go_grown))).mono ?_;rintro e w4 ⟨rfl,o,U,T,L⟩))
       have M:Below I.heap.size I (I.alloc (.cells #[.int .i64 r0,.int .i64 r1,.int .i64 r2] 165)):=(by go_grown);have D:P6 lo (jQ p) G a w4 o:=((P6.of a s).trans (P6.of a M)).trans (L.more fun _ _ q=>zg q);have aa:=((x.out.2.1.below s).below M).add L x.out.2.2;go_roundg m
       case measure=>omega
       case rel=>exact⟨R3,f,o,U,am,⟨T,aa.1,aa.2⟩,y.out.trans D⟩
end
end Go.Proofs.YteampbddflhngaaGreat

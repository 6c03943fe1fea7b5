import Derived.Test.YteampbddflhngaaGreatX13
import Derived.Test.YteampbddflhngaaGreatX14
namespace Go.Proofs.YteampbddflhngaaGreat
set_option linter.all false
set_option maxRecDepth 100000
set_option maxHeartbeats 4000000
open Go.Proofs.Tryz Go.RowKit
section
variable {lo:Nat}
def kQ(lo:Nat)(w:World)(g:Nat)(vs:List ByteArray)(h:List Nat):Prop:=∃c a f d b e,h=[a,f,d,b,e]/\Py w g #[c,.int .i64 (a:Nat),.int .i64 (f:Nat),.int .i64 (d:Nat),.int .i64 (b:Nat),.int .i64 (e:Nat)] 257/\P7 lo w c vs
theorem kQ.below{w d:World}{a:Nat}{vs:List ByteArray}{c:List Nat}(h:kQ lo w a vs c)(b:Below w.heap.size w d):kQ lo d a vs c:=by
 obtain⟨i,f,n,j,g,m,k,e,l⟩:=h;exact⟨i,f,n,j,g,m,k,e.below b,l.below b⟩
def uu(vs:List ByteArray)(a:List Nat)(n:ByteArray):Nat:=match yp vs n with
 |none=>0
 |some k=>if k≥5 then 0 else a.getD k 0
theorem Gb(w:World)(o:Nat)(vs:List ByteArray)(t:List Nat)(n:ByteArray)(h:kQ lo w o vs t)(y:vs.length<=1000):
  Calls prog 201 #[.pointer (some ⟨o,0,none⟩),.string n] w fun e m=>e=.returned (.int .i64 (uu vs t n:Nat))/\m=w:=by
 obtain⟨u,i,d,b,f,c,rfl,q,z⟩:=h;obtain⟨r,A⟩:=q.rules;have l:=Px (Kc w o u vs n (by rw[r];rfl) z y);have j:Hid (uu vs [i,d,b,f,c] n=match yp vs n with|none=>0|some k=>if k≥5 then 0 else [i,d,b,f,c].getD k 0):=rfl;cases s:yp vs n with
 |none=>
  rw[s] at l j;go_enter func201,ntmps201;go_wp2_with (first|(go_at_call 200;refine l.out.mono ?_;rintro e m ⟨rfl,a⟩;obtain rfl:=a.symm))
  go_ret;exact⟨by rw[j.out];rfl,rfl⟩
 |some k=>
  rw[s] at l j;simp only[ux,jG] at l j;by_cases B:k<5
  ·have p:(k:Int)<5:=by omega
   have g:Hid (uu vs [i,d,b,f,c] n=[i,d,b,f,c].getD k 0):=by rw[Hid,j.out,za (by omega)]
   have x:w.cell? ⟨o,1+k,none⟩=some (.int .i64 (([i,d,b,f,c].getD k 0:Nat):Int)):=by
    rw[r];obtain rfl|rfl|rfl|rfl|rfl:k=0∨k=1∨k=2∨k=3∨k=4:=by omega
    all_goals rfl
   generalize [i,d,b,f,c].getD k 0=v at *;clear r j;go_enter func201,ntmps201;go_wp2_with (first|(go_at_call 200;refine l.out.mono ?_;rintro e m ⟨rfl,a⟩;obtain rfl:=a.symm))
   go_ret;exact⟨by rw[g.out];rfl,rfl⟩
  ·have p:¬(k:Int)<5:=by omega
   have g:Hid (uu vs [i,d,b,f,c] n=0):=by rw[Hid,j.out,zb (by omega)]
   go_enter func201,ntmps201;go_wp2_with (first|(go_at_call 200;refine l.out.mono ?_;rintro e m ⟨rfl,a⟩;obtain rfl:=a.symm))
   go_ret;exact⟨by rw[g.out];rfl,rfl⟩
def lR(lo:Nat)(w:World)(b tb o a:Nat)(t:List zh)(ns:List ByteArray):Prop:=Py w b #[.pointer (some ⟨tb,o,none⟩),.pointer (some ⟨a,0,none⟩)] 200/\TG lo w tb o t/\lB lo w a ns/\t.length<=1000/\ns.length<=1000
theorem lR.below{w c:World}{d tb o b:Nat}{t:List zh}{ns:List ByteArray}(h:lR lo w d tb o b t ns)(a:Below w.heap.size w c):lR lo c d tb o b t ns:=⟨h.1.below a,h.2.1.below a,h.2.2.1.below a,h.2.2.2⟩
def uG(ns vs:List ByteArray)(a:List Nat)(t:ByteArray):ya:=if zO t then⟨true,uu vs a t,0⟩ else⟨false,(uj ns t).getD 0,0⟩
theorem GM{p:Nat}(w:World)(C tb o D u:Nat)(t:List zh)(ns vs:List ByteArray)(c:List Nat)(x:ByteArray)(h:lR lo w C tb o D t ns)(hs:kQ p w u vs c)(H:vs.length<=1000):
  Calls prog 186 #[.pointer (some ⟨C,0,none⟩),.string x,.pointer (some ⟨u,0,none⟩)] w fun e b=>e=.returned (nu (uG ns vs c x))/\Below w.heap.size w b:=by
 obtain⟨l,_,j,_,q⟩:=h;obtain⟨K,L,I⟩:=l.boxed;have J:=Px fun W r=>Gb W u vs c x (hs.below r) H;have G:=Px fun W r=>MI W D ns x (j.below r) q;have z:=Py.new w #[.bool false,.int .i64 0,.int .i64 0] 284;cases g:zO x with
 |true=>
  have y:Hid (∀W,Calls prog 156 #[.string x] W fun e b=>e=.returned (.bool true)/\b=W):=fun W=>by rw[←g];exact fC x W
  have A:Hid (uG ns vs c x=⟨true,uu vs c x,0⟩):=by rw[Hid,uG,g];rfl
  generalize uu vs c x=k at *;go_enter func186,ntmps186;go_wp2_with (first|(go_at_call 156;refine(y.out _).mono ?_;rintro e b ⟨rfl,a⟩;obtain rfl:=a.symm)|(go_at_call 201;refine(J.out _ (by exact(by go_grown))).mono ?_;rintro e b ⟨rfl,a⟩;obtain rfl:=a.symm))
  (try simp only[Exit.inBlock,Exit.then])
  exact zK (v:=.agg #[.bool true,.int .i64 k,.int .i64 0]) (by simp[results,results186,go_sem]) rfl ⟨by rw[A.out];rfl,(by go_grown)⟩
 |false=>
  have y:Hid (∀W,Calls prog 156 #[.string x] W fun e b=>e=.returned (.bool false)/\b=W):=fun W=>by rw[←g];exact fC x W
  have A:Hid (uG ns vs c x=⟨false,(uj ns x).getD 0,0⟩):=by rw[Hid,uG,g];rfl
  generalize (uj ns x).getD 0=k at *;go_enter func186,ntmps186;go_wp2_with (first|(go_at_call 156;refine(y.out _).mono ?_;rintro e b ⟨rfl,a⟩;obtain rfl:=a.symm)|(go_at_call 129;refine(G.out _ (by exact(by go_grown))).mono ?_;rintro e B ⟨rfl,m,f⟩;have d:Below (w.alloc (.cells #[.bool false,.int .i64 0,.int .i64 0] 284)).heap.size (w.alloc (.cells #[.bool false,.int .i64 0,.int .i64 0] 284)) B:=(by rw[f];exact zL (zo _ _) m);have n:=z.below d;obtain⟨i,E,F⟩:=n.boxed;have s:Below w.heap.size w B:=(zP (by go_grown) d (zf _));clear f))
  (try simp only[Exit.inBlock,Exit.then])
  exact zK (v:=.agg #[.bool false,.int .i64 k,.int .i64 0]) (by simp[results,results186,go_sem,i]) rfl ⟨by rw[A.out];rfl,((s.setCell (by simp) _).setCell (by simp) _).setCell (by simp) _⟩
end
section
variable {lo:Nat}{ts':List ya}
theorem OX:(prog.info? 284).map (fun i=>(i.zero,i.size,i.bytes))=some (some (.agg #[.bool false,.int .i64 0,.int .i64 0]),3,24):=by kernel_rfl
def qR(p:Nat)(ts:List ya)(t:ya):ya:=if t.var then{t with level:=(yN ⟨p,ts⟩ t.num).getD 0} else t
def ub(ns vs:List ByteArray)(a:List Nat)(l:zj):List ya:=l.args.map (uG ns vs a)
def zI(t:List zh)(ns vs:List ByteArray)(a:List Nat)(l:zj):zt:=⟨zM t l.pred,(ub ns vs a l).map (qR 0 (ub ns vs a l))⟩
def dT(t:ya):Bool×Nat:=(t.var,t.num)
theorem JC{ts:List ya}(h:ts.map dT=ts'.map dT)(p a q:Nat):zH ⟨p,ts⟩ q=zH ⟨a,ts'⟩ q:=by
 have e:∀l:List ya,(l.any fun t=>t.var&&t.num == q)=(l.map dT).any fun x=>x.1&&x.2 == q:=fun l=>by
  rw[List.any_map];rfl
 simp only[zH];rw[e,e,h]
theorem Ie{ts:List ya}(h:ts.map dT=ts'.map dT)(p a q:Nat):yN ⟨p,ts⟩ q=yN ⟨a,ts'⟩ q:=by
 unfold yN;have:zH ⟨p,ts⟩=zH ⟨a,ts'⟩:=funext (JC h p a);rw[this]
theorem Oj(p:Nat)(ts:List ya)(t:ya):dT (qR p ts t)=dT t:=by
 unfold qR;split<;>rfl
def vg(ts:List ya)(k:Nat):List ya:=(ts.take k).map (qR 0 ts)++ts.drop k
theorem Dr(ts:List ya)(k:Nat):(vg ts k).map dT=ts.map dT:=by
 unfold vg;rw[vC,lT,List.map_drop,show(dT ∘ qR 0 ts)=dT from funext (Oj 0 ts),List.map_take,qU]
theorem Gm(ts:List ya)(k:Nat):(vg ts k).length=ts.length:=by
 have:=congrArg List.length (Dr ts k);simpa using this
theorem Jx(ts:List ya)(k:Nat)(a:k<ts.length):(vg ts k)[k]?=some ts[k]:=by
 unfold vg;rw[gU (by simp;omega),uJ,vU,dH (by omega),jH,List.getElem?_drop];simp[a]
theorem FN(ts:List ya)(k:Nat)(a:k<ts.length):(vg ts k).set k (qR 0 ts ts[k])=vg ts (k+1):=by
 unfold vg;rw[fG _ _ (by simp;omega),uJ,vU,dH (by omega),jH,xk a,pg,yP a,vC,kB];rfl
theorem JJ(ts:List ya):vg ts 0=ts:=by simp[vg]
theorem DN(ts:List ya):vg ts ts.length=ts.map (qR 0 ts):=by simp[vg]
theorem JE{l:zt}{q:Nat}(a:q<=1000000):(yN l q).getD 0<=1000000:=by
 unfold yN;split
 ·have:=rh (p:=zH l) (l:=List.range q);simp at this ⊢;omega
 ·simp
theorem KT(ns:List ByteArray)(x:ByteArray):(uj ns x).getD 0<=ns.length:=by
 unfold uj;split
 ·simp;omega
 ·simp
theorem Hq(vs:List ByteArray)(a:List Nat)(n:ByteArray)(h:∀x∈a,x<=1000):uu vs a n<=1000:=by
 unfold uu;split
 ·omega
 ·split
  ·omega
  ·rename_i k _ _;by_cases b:k<a.length
   ·rw[gu,yr b];exact h _ (zv b)
   ·rw[gu,kp (by omega)];simp
theorem IC(ns vs:List ByteArray)(a:List Nat)(x:ByteArray)(h:∀y∈a,y<=1000)(b:ns.length<=1000):(uG ns vs a x).num<=1000/\(uG ns vs a x).level=0:=by
 unfold uG;split
 ·exact⟨Hq vs a x h,rfl⟩
 ·have:=KT ns x;exact⟨by simp only;omega,rfl⟩
theorem ev{α:Type}{l:List α}{k:Nat}{x:α}(h:l[k]?=some x):l.set k x=l:=by
 obtain⟨a,e⟩:=jA.1 h;rw[←e];exact rB a
theorem FM(ts:List ya)(k:Nat)(t:ya)(b:Nat)(h:ts[k]?=some t):(PO (ts.map j6)).set (k*3+2) (.int .i64 b)=PO ((ts.set k {t with level:=b}).map j6):=by
 obtain⟨f,e⟩:=jA.1 h;have a:k<(ts.map j6).length:=by simpa using f
 have q:=iT (ts.map j6) k a (.bool t.var) (.int .i64 t.num) (.int .i64 b);obtain⟨d,c,_⟩:=sZ (ts.map j6) k a;simp only[vm,e,j6] at d c;rw[ev d,ev c] at q;rw[q,fA];rfl
def gC(ts:List ya)(k:Nat):List ya:=ts.take k++List.replicate (ts.length-k) ⟨false,0,0⟩
theorem Jw(ts:List ya)(k:Nat)(a:k<=ts.length):(gC ts k).length=ts.length:=by simp[gC];omega
theorem K4(ts:List ya)(k:Nat)(b:k<ts.length):(gC ts k).set k ts[k]=gC ts (k+1):=by
 unfold gC;obtain⟨m,a⟩:∃m,ts.length-k=m+1:=⟨ts.length-k-1,by omega⟩;rw[fG _ _ (by simp;omega),vU,dH (by omega),jH,a,pS,pg,show ts.length-(k+1)=m from by omega,yP b,kB];rfl
theorem Jm(ts:List ya):gC ts ts.length=ts:=by simp[gC]
theorem Cl(ts:List ya)(k:Nat)(h:∀x∈ts,x.num<=1000/\x.level=0):∀x∈vg ts k,x.num<=1000000/\x.level<=1000000:=by
 intro x a;unfold vg at a;rw[zX] at a;rcases a with a|a
 ·rw[z9] at a;obtain⟨y,b,rfl⟩:=a;have:=h y (fU b);unfold qR;split
  ·exact⟨by simp only;omega,JE (by omega)⟩
  ·omega
 ·have:=h x (gZ a);omega
theorem ib{w:World}{d:Nat}{e:TypeId}{g n cap m:Nat}{f:List (Value×Value×Value)}(h:w.ownsRow d e 3 (.slice (some ⟨g,0,none⟩) n cap) m (PO f))(k:Nat)(i:k<f.length):
  ∃a b c,g<w.heap.size/\w.cell? ⟨g,k*3,none⟩=some a/\w.cell? ⟨g,k*3+1,none⟩=some b/\w.cell? ⟨g,k*3+2,none⟩=some c:=⟨_,_,_,wF h k i⟩
theorem DH{a4 a6:Nat}(w:World)(mb tb o cb sb:Nat)(t:List zh)(ns vs:List ByteArray)(s:List Nat)(l:zj)(va:Value)(h:lR lo w mb tb o cb t ns)(hs:kQ a4 w sb vs s)(hl:vs.length<=1000)(aE:∀y∈s,y<=1000)(ha:P7 a6 w va l.args)(af:l.args.length<=1000):
  Calls prog 160 #[.pointer (some ⟨mb,0,none⟩),.agg #[.bool l.neg,.string l.pred,va],.pointer (some ⟨sb,0,none⟩)] w fun e M=>∃tv,e=.returned (.agg #[.int .i64 (zM t l.pred:Nat),tv])/\yh w.heap.size M tv (zI t ns vs s l).qg/\Below w.heap.size w M:=by
 obtain⟨i0,hi,a9,a5,ay⟩:=info_parts OX;obtain⟨ao,z,rfl⟩:=ha.qx;have ah:=fun W:World=>run_make (P:=prog) (w:=W) 202 284 i0 _ underlying202 hi a9 .i64 .i64 (l.args.length:Int) (l.args.length:Int) (by omega) (Int.le_refl _) (by rw[ay];omega) (by omega);rw[a5] at ah;have HF:=Px fun W N=>Hn lo W tb o t l.pred (h.2.1.below N) h.2.2.2.1;have HT:=Px fun W x N=>GM W mb tb o cb sb t ns vs s x (h.below N) (hs.below N) hl;have Z:Hid (∀x∈ub ns vs s l,x.num<=1000/\x.level=0):=fun x hx=>by
  simp only[ub,z9] at hx;obtain⟨y,_,rfl⟩:=hx;exact IC ns vs s y aE h.2.2.2.2
 have HE:Hid ((zI t ns vs s l).qg=(ub ns vs s l).map (qR 0 (ub ns vs s l))):=rfl;have n:(ub ns vs s l).length=l.args.length:=by simp[ub]
 have ad:Hid (∀k (hk:k<l.args.length) (aD:k<(ub ns vs s l).length),uG ns vs s l.args[k]=(ub ns vs s l)[k]):=fun k hk aD=>by simp[ub]
 obtain⟨an,aA,aP⟩:=h.1.boxed;have aw:w.cell? ⟨mb,0,none⟩=some (.pointer (some ⟨tb,o,none⟩)):=by rw[an];rfl
 clear h hs an;generalize ub ns vs s l=b at *;generalize zM t l.pred=D at *;generalize (yn t l.pred).isSome=fb at *;go_enter func160,ntmps160;go_upto_region 1 with fail
 go_quiet ((go_at_call 77;exact Calls.quiet_of_same (HF.out _ (by exact(by repeat'(first|with_reducible(first|apply zR|assumption|apply zN|apply zA|apply zD|apply zS)|go_size))))))
 go_upto_region 4 with fail
 have a:=zC (K6 ((((w.alloc (.cells #[.bool l.neg,.string l.pred,.slice ao l.args.length z] 90)).alloc (.cells #[.int .i64 0,.slice none 0 0] 204)).drewN nq)) l.args.length 284 (.bool false) (.int .i64 0) (.int .i64 0) (by unfold maxLen;omega)) ((zo _ _).alloc (zf _) (.cells #[.int .i64 D,.slice (some ⟨w.heap.size+1+1,0,none⟩) l.args.length l.args.length] 204));have c:=Py.new ((((w.alloc (.cells #[.bool l.neg,.string l.pred,.slice ao l.args.length z] 90)).alloc (.cells #[.int .i64 0,.slice none 0 0] 204)).drewN nq).alloc (.cells (madeCells #[.bool false,.int .i64 0,.int .i64 0] (l.args.length*3)) 284)) #[.int .i64 D,.slice (some ⟨w.heap.size+1+1,0,none⟩) l.args.length l.args.length] 204;have d:=(((Py.new (w.alloc (.cells #[.bool l.neg,.string l.pred,.slice ao l.args.length z] 90)) #[.int .i64 0,.slice none 0 0] 204).below (zL (zo _ _) nq)).below ((zo _ _).alloc (zf _) (.cells (madeCells #[.bool false,.int .i64 0,.int .i64 0] (l.args.length*3)) 284))).below ((zo _ _).alloc (zf _) (.cells #[.int .i64 D,.slice (some ⟨w.heap.size+1+1,0,none⟩) l.args.length l.args.length] 204));have T:Below w.heap.size w (((((w.alloc (.cells #[.bool l.neg,.string l.pred,.slice ao l.args.length z] 90)).alloc (.cells #[.int .i64 0,.slice none 0 0] 204)).drewN nq).alloc (.cells (madeCells #[.bool false,.int .i64 0,.int .i64 0] (l.args.length*3)) 284)).alloc (.cells #[.int .i64 D,.slice (some ⟨w.heap.size+1+1,0,none⟩) l.args.length l.args.length] 204)):=(by repeat'(first|with_reducible(first|apply zR|assumption|apply zN|apply zA|apply zD|apply zS)|go_size));have J:(((w.alloc (.cells #[.bool l.neg,.string l.pred,.slice ao l.args.length z] 90)).alloc (.cells #[.int .i64 0,.slice none 0 0] 204)).drewN nq).heap.size=w.heap.size+1+1:=by simp
 simp only[World.size_alloc,J] at a c d;clear J;generalize ((((w.alloc (.cells #[.bool l.neg,.string l.pred,.slice ao l.args.length z] 90)).alloc (.cells #[.int .i64 0,.slice none 0 0] 204)).drewN nq).alloc (.cells (madeCells #[.bool false,.int .i64 0,.int .i64 0] (l.args.length*3)) 284)).alloc (.cells #[.int .i64 D,.slice (some ⟨w.heap.size+1+1,0,none⟩) l.args.length l.args.length] 204)=w3 at *;have a1:=T.size;have H0:Hid (PO (List.replicate l.args.length (Value.bool false,Value.int .i64 0,Value.int .i64 0))=PO ((gC b 0).map j6)):=by
  rw[Hid,gC,List.take_zero,nZ,Nat.sub_zero,n,List.map_replicate];rfl
 rw[H0.out] at a;clear H0 ah aw aA HF;have a:=yq a (show w.heap.size<=w.heap.size+1+1 by omega);go_loopw [35] (fun ap wr=>∃k:Nat,k<=l.args.length/\ap=.int .i64 k/\Py wr (w.heap.size+1+1+1) #[.int .i64 D,.slice (some ⟨w.heap.size+1+1,0,none⟩) l.args.length l.args.length] 204/\Py wr (w.heap.size+1) #[.int .i64 0,.slice none 0 0] 204/\wr.ownsRow w.heap.size 284 3 (.slice (some ⟨w.heap.size+1+1,0,none⟩) l.args.length l.args.length) l.args.length (PO ((gC b k).map j6))/\Below w.heap.size w wr) (fun i _=>l.args.length-(intOf i).toNat)
 case atStart=>exact⟨0,zx _,rfl,c,d,a,T⟩
 case round=>
  clear a c d;obtain⟨k,hk,rfl,c,d,a,f⟩:=hrel;have L:=f.size;by_cases r:k<l.args.length
  ·obtain⟨g,rfl,hg,B⟩:=ha.cell k r;have aO:=zm f hg B;have aJ:g<wr.heap.size:=by omega
   have u:=Px (K4 b k (by omega));have a3:=Px (ad.out k r (by omega));have aL:=Jw b k (by omega);obtain⟨e0,e1,e2,aB,G,V,aa⟩:=ib a k (by simp;omega);have au:=qF a;obtain⟨C,H,I⟩:=c.boxed;have aH:wr.cell? ⟨w.heap.size+1+1+1,1,none⟩=some (.slice (some ⟨w.heap.size+1+1,0,none⟩) l.args.length l.args.length):=by rw[C];rfl
   clear B;have aC:Hid (∀W,Below wr.heap.size wr W->Calls prog 186 #[.pointer (some ⟨mb,0,none⟩),.string l.args[k],.pointer (some ⟨sb,0,none⟩)] W fun e M=>e=.returned (.agg #[.bool b[k].var,.int .i64 (b[k].num:Nat),.int .i64 (b[k].level:Nat)])/\Below W.heap.size W M):=fun W N=>by
    have q:=HT.out W l.args[k] (P3 f N);rw[a3.out] at q;exact q
   generalize b[k]=tk at *;generalize l.args[k]=x at *;generalize (gC b k)=lk at *;go_wp2;go_region_held3 (fun M=>M.cell? ⟨w.heap.size+1+1+1,1,none⟩=some (.slice (some ⟨w.heap.size+1+1,0,none⟩) l.args.length l.args.length)) (first|go_keep|(go_simp;done)) (first|(go_at_call 186;refine(aC.out _ (by exact(by repeat'(first|with_reducible(first|apply zR|assumption|apply zN|apply zA|apply zD|apply zS)|go_size)))).mono ?_;rintro e Q ⟨rfl,ab⟩;have m:Below wr.heap.size wr Q:=(zP (by repeat'(first|with_reducible(first|apply zR|assumption|apply zN|apply zA|apply zD|apply zS)|go_size)) ab (zf _));have E:=c.below m;have R:=d.below m;have p:=zC a m;obtain⟨ae,am,ak⟩:=E.boxed;obtain⟨f0,f1,f2,az,aG,a8,a2⟩:=ib p k (by simp;omega);have ac:=qF p;have ax:=m.size))
   have j:=J2 p k (by simp;omega) (.bool tk.var) (.int .i64 tk.num) (.int .i64 tk.level);have HM:(lk.map j6).set k (.bool tk.var,.int .i64 tk.num,.int .i64 tk.level)=(gC b (k+1)).map j6:=by rw[←u.out,fA];rfl
   rw[HM] at j;have U:=((E.set_ne (show w.heap.size+1+1+1≠w.heap.size+1+1 by omega) (k*3) (.bool tk.var)).set_ne (show w.heap.size+1+1+1≠w.heap.size+1+1 by omega) (k*3+1) (.int .i64 tk.num)).set_ne (show w.heap.size+1+1+1≠w.heap.size+1+1 by omega) (k*3+2) (.int .i64 tk.level);have O:=((R.set_ne (show w.heap.size+1≠w.heap.size+1+1 by omega) (k*3) (.bool tk.var)).set_ne (show w.heap.size+1≠w.heap.size+1+1 by omega) (k*3+1) (.int .i64 tk.num)).set_ne (show w.heap.size+1≠w.heap.size+1+1 by omega) (k*3+2) (.int .i64 tk.level);have X:Below w.heap.size w (((Q.setCell ⟨w.heap.size+1+1,k*3,none⟩ (.bool tk.var)).setCell ⟨w.heap.size+1+1,k*3+1,none⟩ (.int .i64 tk.num)).setCell ⟨w.heap.size+1+1,k*3+2,none⟩ (.int .i64 tk.level)):=(((P3 f m).setCell (by simp;omega) _).setCell (by simp;omega) _).setCell (by simp;omega) _;generalize ((Q.setCell ⟨w.heap.size+1+1,k*3,none⟩ (.bool tk.var)).setCell ⟨w.heap.size+1+1,k*3+1,none⟩ (.int .i64 tk.num)).setCell ⟨w.heap.size+1+1,k*3+2,none⟩ (.int .i64 tk.level)=w5 at *;go_wp2;go_roundw
   case rel=>exact⟨k+1,by omega,by go_num,U,O,j,X⟩
   case measure=>simp[intOf];omega
  ·obtain rfl:k=l.args.length:=by omega
   rw[←n,Jm] at a;rw[←n] at c;clear r hk;obtain⟨C,H,I⟩:=c.boxed;go_wp2;clear C H I;rw[←n] at af ⊢;clear T a1 HT ad n;go_loopw [52] (fun a0 wr=>∃k:Nat,k<=b.length/\a0=.int .i64 k/\Py wr (w.heap.size+1+1+1) #[.int .i64 D,.slice (some ⟨w.heap.size+1+1,0,none⟩) b.length b.length] 204/\Py wr (w.heap.size+1) #[.int .i64 0,.slice none 0 0] 204/\wr.ownsRow w.heap.size 284 3 (.slice (some ⟨w.heap.size+1+1,0,none⟩) b.length b.length) b.length (PO ((vg b k).map j6))/\Below w.heap.size w wr) (fun i _=>b.length-(intOf i).toNat)
   case atStart=>exact⟨0,zx _,rfl,c,d,by rw[JJ];exact a,f⟩
   case round=>
    clear a c d f L;obtain⟨k,hk,rfl,c,d,a,f⟩:=hrel;have L:=f.size;by_cases r:k<b.length
    ·have aq:=Gm b k;have F:=Px (Jx b k r);have u:=Px (FN b k r);have ag:Hid (yN ⟨D,vg b k⟩ b[k].num=yN ⟨0,b⟩ b[k].num):=Ie (Dr b k) _ _ _;have A:Hid (qR 0 b b[k]=if b[k].var then{b[k] with level:=(yN ⟨0,b⟩ b[k].num).getD 0} else b[k]):=rfl;have K:=Cl b k Z.out;have aI:=(Z.out b[k] (zv r)).1;obtain⟨aB,G,V,aa⟩:=wF a k (by simp;omega);have aj:k<(vg b k).length:=by omega
     have al:(vg b k)[k]=b[k]:=by have q:=F.out;rw[yr aj] at q;simpa using q
     simp only[vm,al,j6] at G V aa;have au:=qF a;obtain⟨C,H,I⟩:=c.boxed;have ai:Hid (yh w.heap.size wr (.slice (some ⟨w.heap.size+1+1,0,none⟩) b.length b.length) (vg b k)):=⟨by rw[aq];exact a,by omega,K⟩;have a7:Hid (∀W,Below wr.heap.size wr W->Calls prog 187 #[.agg #[.int .i64 D,.slice (some ⟨w.heap.size+1+1,0,none⟩) b.length b.length],.int .i64 (b[k].num:Nat)] W fun e M=>e=.returned (.tuple #[.int .i64 (((yN ⟨0,b⟩ b[k].num).getD 0:Nat):Int),.bool (yN ⟨0,b⟩ b[k].num).isSome])/\Below W.heap.size W M):=fun W N=>by
      have q:=D8 W _ D b[k].num (vg b k) (ai.out.below N) (by omega);rw[ag.out] at q;exact q
     clear aj al ag K ai;generalize b[k]=tk at *;generalize vg b k=Y at *;generalize (yN ⟨0,b⟩ tk.num).getD 0=S at *;generalize (yN ⟨0,b⟩ tk.num).isSome=lb at *;cases hv:tk.var with
     |false=>
      rw[hv] at G A;simp only[gx,if_false] at A;go_wp2;have ar:Hid (Y=vg b (k+1)):=by
       rw[Hid,←u.out,A.out];exact(ev F.out).symm
      go_roundw
      case rel=>exact⟨k+1,by omega,by go_num,c.below (by repeat'(first|with_reducible(first|apply zR|assumption|apply zN|apply zA|apply zD|apply zS)|go_size)),d.below (by repeat'(first|with_reducible(first|apply zR|assumption|apply zN|apply zA|apply zD|apply zS)|go_size)),by rw[←ar.out];exact zC a (by repeat'(first|with_reducible(first|apply zR|assumption|apply zN|apply zA|apply zD|apply zS)|go_size)),zP f (by repeat'(first|with_reducible(first|apply zR|assumption|apply zN|apply zA|apply zD|apply zS)|go_size)) (zf _)⟩
      case measure=>simp[intOf];omega
     |true=>
      rw[hv] at G A;simp only[if_true] at A;have aM:wr.heap.size≠w.heap.size+1+1:=by omega
      go_upto_region 13 with (first|(go_at_call 187;refine(a7.out _ (by exact(by repeat'(first|with_reducible(first|apply zR|assumption|apply zN|apply zA|apply zD|apply zS)|go_size)))).mono ?_;rintro e Q ⟨rfl,ab⟩;have m:Below wr.heap.size wr Q:=(zP (by repeat'(first|with_reducible(first|apply zR|assumption|apply zN|apply zA|apply zD|apply zS)|go_size)) ab (zf _));have E:=c.below m;have R:=d.below m;have p:=zC a m;obtain⟨ae,am,ak⟩:=E.boxed;obtain⟨f0,f1,f2,az,aG,a8,a2⟩:=ib p k (by simp;omega);have ac:=qF p;have ax:=m.size))
      have j:=uI p (k*3+2) (by rw[pU];simp;omega) (.int .i64 S);have U:=E.set_ne (show w.heap.size+1+1+1≠w.heap.size+1+1 by omega) (k*3+2) (.int .i64 S);have O:=R.set_ne (show w.heap.size+1≠w.heap.size+1+1 by omega) (k*3+2) (.int .i64 S);have X:Below w.heap.size w (Q.setCell ⟨w.heap.size+1+1,k*3+2,none⟩ (.int .i64 S)):=((P3 f m).setCell (by simp;omega) _);have HM:Hid ((PO (Y.map j6)).set (k*3+2) (.int .i64 S)=PO ((vg b (k+1)).map j6)):=by
       rw[Hid,←u.out,A.out];exact FM Y k tk S F.out
      rw[HM.out] at j;clear G V aa;go_wp2;generalize Q.setCell ⟨w.heap.size+1+1,k*3+2,none⟩ (.int .i64 S)=w5 at *;go_roundw
      case rel=>exact⟨k+1,by omega,by go_num,U,O,j,X⟩
      case measure=>simp[intOf];omega
    ·obtain rfl:k=b.length:=by omega
     rw[DN] at a;obtain⟨C,H,I⟩:=c.boxed;obtain⟨aF,aK,aN⟩:=d.boxed;have av:Hid (∀x∈b.map (qR 0 b),x.num<=1000000/\x.level<=1000000):=by rw[←DN];exact Cl b _ Z.out
     go_wp2
     (try simp only[Exit.inBlock,Exit.then])
     refine zK (v:=.agg #[.int .i64 D,.slice (some ⟨w.heap.size+1+1,0,none⟩) b.length b.length]) (by simp[results,results160,go_sem,aF]) rfl ⟨_,rfl,?_,(f.setCell (by simp) _).setCell (by simp) _⟩;rw[HE.out];refine⟨?_,by simpa using af,av.out⟩;rw[uJ];exact xK a (((PB.refl (w.heap.size+1) wr).setCell 0 _).setCell 1 _) d (by decide)
end
end Go.Proofs.YteampbddflhngaaGreat

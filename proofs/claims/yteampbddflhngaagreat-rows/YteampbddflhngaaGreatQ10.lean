import Derived.Test.YteampbddflhngaaGreatQ02
import Derived.Test.YteampbddflhngaaGreatQ04
namespace Go.Proofs.YteampbddflhngaaGreat
set_option linter.all false
set_option maxRecDepth 100000
set_option maxHeartbeats 4000000
open Go.Proofs.Tryz Go.RowKit
section
variable {lo:Nat}
def gJ(lo:Nat)(w:World)(g:Nat)(vs:κ)(h:List Nat):Prop:=∃b a c f e d,h=[a,c,f,e,d]/\Rz w g #[b,ι (a:Nat),ι (c:Nat),ι (f:Nat),ι (e:Nat),ι (d:Nat)] 257/\R7 lo w b vs
def gJ.below{w w':World}{b:Nat}{vs:κ}{c:List Nat}(h:gJ lo w b vs c)(a:μ w w'):gJ lo w' b vs c:=by
 obtain⟨e,d,f,k,i,g,l,m,j⟩:=h;exact⟨e,d,f,k,i,g,l,m.below a,j.below a⟩
def uJ(vs:κ)(a:List Nat)(n:ByteArray):Nat:=match y5 vs n with
 |none=>0
 |some k=>if k≥5 then 0 else a.getD k 0
def Ma(w:World)(m:Nat)(vs:κ)(t:List Nat)(n:ByteArray)(h:gJ lo w m vs t)(x:vs.length<=1000):
  Calls prog 201 #[(π m),.string n] w λe o=>e=ε (ι (uJ vs t n:Nat))/\o=w:=by
 obtain⟨y,d,b,c,i,f,rfl,r,v⟩:=h;obtain⟨q,B⟩:=r.rules;have l:=Ry (NS w m y vs n (by rw[q];rfl) v x);have g:Hid (uJ vs [d,b,c,i,f] n=match y5 vs n with|none=>0|some k=>if k≥5 then 0 else [d,b,c,i,f].getD k 0):=rfl;rcases s:y5 vs n with _|k
 .rw[s] at l g;go_enter func201,ntmps201;go_wp2_with (go_at_call 200;refine l.out.mono ?_;rintro e o ⟨rfl,a⟩;obtain rfl:=a.symm)
  go_ret;exact⟨by rw[g.out];rfl,rfl⟩
 rw[s] at l g;simp only[uL,kc] at l g;by_cases A:k<5
 .have p:(k:Int)<5:=by omega
  have j:Hid (uJ vs [d,b,c,i,f] n=[d,b,c,i,f].getD k 0):=by rw[Hid,g.out,za (by omega)]
  have z:w.cell? ⟨m,1+k,none⟩=some (ι (([d,b,c,i,f].getD k 0:Nat):Int)):=by
   rw[q];obtain rfl|rfl|rfl|rfl|rfl:k=0∨k=1∨k=2∨k=3∨k=4:=by omega
   all_goals rfl
  generalize [d,b,c,i,f].getD k 0=u at *;clear q g;go_enter func201,ntmps201;go_wp2_with (go_at_call 200;refine l.out.mono ?_;rintro e o ⟨rfl,a⟩;obtain rfl:=a.symm)
  go_ret;exact⟨by rw[j.out];rfl,rfl⟩
 have p:¬(k:Int)<5:=by omega
 have j:Hid (uJ vs [d,b,c,i,f] n=0):=by rw[Hid,g.out,zb (by omega)]
 go_enter func201,ntmps201;go_wp2_with (go_at_call 200;refine l.out.mono ?_;rintro e o ⟨rfl,a⟩;obtain rfl:=a.symm)
 go_ret;exact⟨by rw[j.out];rfl,rfl⟩
def mW(lo:Nat)(w:World)(b tb o a:Nat)(t:List zg)(ns:κ):Prop:=Rz w b #[.pointer (some ⟨tb,o,none⟩),(π a)] 200/\TG lo w tb o t/\me lo w a ns/\t.length<=1000/\ns.length<=1000
def mW.below{w w':World}{c tb o b:Nat}{t:List zg}{ns:κ}(h:mW lo w c tb o b t ns)(a:μ w w'):mW lo w' c tb o b t ns:=⟨h.1.below a,h.2.1.below a,h.2.2.1.below a,h.2.2.2⟩
def uF(ns vs:κ)(a:List Nat)(t:ByteArray):yd:=if zQ t then⟨true,uJ vs a t,0⟩ else⟨false,(uy ns t).getD 0,0⟩
def PA{r:Nat}(w:World)(B tb o C l:Nat)(t:List zg)(ns vs:κ)(c:List Nat)(x:ByteArray)(h:mW lo w B tb o C t ns)(hs:gJ r w l vs c)(I:vs.length<=1000):
  Calls prog 186 #[(π B),.string x,(π l)] w λe b=>e=ε (n4 (uF ns vs c x))/\μ w b:=by
 obtain⟨A,_,i,_,q⟩:=h;obtain⟨K,L,E⟩:=A.boxed;have J:=Ry λW p=>Ma W l vs c x (hs.below p) I;have G:=Ry λW p=>J8 W C ns x (i.below p) q;have n:=Rz.new w #[.bool false,ι 0,ι 0] 284;cases g:zQ x
 .have s:Hid (∀W,Calls prog 156 #[.string x] W λe b=>e=ε (.bool false)/\b=W):=λW=>by rw[←g];exact fW x W
  have u:Hid (uF ns vs c x=⟨false,(uy ns x).getD 0,0⟩):=by rw[Hid,uF,g];rfl
  generalize (uy ns x).getD 0=j at *;go_enter func186,ntmps186;go_wp2_with (first|(go_at_call 156;refine(s.out _).mono ?_;rintro e b ⟨rfl,a⟩;obtain rfl:=a.symm)|(go_at_call 129;refine(G.out _ (by exact(by go_grown))).mono ?_;rintro e D ⟨rfl,m,d⟩;have f:Below (w.alloc (.cells #[.bool false,ι 0,ι 0] 284)).heap.size (w.alloc (.cells #[.bool false,ι 0,ι 0] 284)) D:=(by rw[d];exact zI (zp _ _) m);have k:=n.below f;obtain⟨z,F,H⟩:=k.boxed;have y:μ w D:=(zM (by go_grown) f (zf _));clear d))
  (try simp only[Exit.inBlock,Exit.then])
  exact zO (v:=.agg #[.bool false,ι j,ι 0]) (by simp[results,results186,go_sem,z]) rfl ⟨by rw[u.out];rfl,((y.setCell (by simp) _).setCell (by simp) _).setCell (by simp) _⟩
 have s:Hid (∀W,Calls prog 156 #[.string x] W λe b=>e=ε (.bool true)/\b=W):=λW=>by rw[←g];exact fW x W
 have u:Hid (uF ns vs c x=⟨true,uJ vs c x,0⟩):=by rw[Hid,uF,g];rfl
 generalize uJ vs c x=j at *;go_enter func186,ntmps186;go_wp2_with (first|(go_at_call 156;refine(s.out _).mono ?_;rintro e b ⟨rfl,a⟩;obtain rfl:=a.symm)|(go_at_call 201;refine(J.out _ (by exact(by go_grown))).mono ?_;rintro e b ⟨rfl,a⟩;obtain rfl:=a.symm))
 (try simp only[Exit.inBlock,Exit.then])
 exact zO (v:=.agg #[.bool true,ι j,ι 0]) (by simp[results,results186,go_sem]) rfl ⟨by rw[u.out];rfl,(by go_grown)⟩
end
section
variable {lo:Nat}{ts':List yd}
def QK:(prog.info? 284).map (λi=>(i.zero,i.size,i.bytes))=some (some (.agg #[.bool false,ι 0,ι 0]),3,24):=by kernel_rfl
def jt(p:Nat)(ts:List yd)(t:yd):yd:=if t.var then{t with level:=(yV ⟨p,ts⟩ t.num).getD 0} else t
def uf(ns vs:κ)(a:List Nat)(l:zk):List yd:=l.args.map (uF ns vs a)
def zK(t:List zg)(ns vs:κ)(a:List Nat)(l:zk):zw:=⟨zF t l.pred,(uf ns vs a l).map (jt 0 (uf ns vs a l))⟩
def fJ(t:yd):Bool×Nat:=(t.var,t.num)
def N7{ts:List yd}(h:ts.map fJ=ts'.map fJ)(p a q:Nat):zJ ⟨p,ts⟩ q=zJ ⟨a,ts'⟩ q:=by
 have e:∀l:List yd,(l.any λt=>t.var&&t.num == q)=(l.map fJ).any λx=>x.1&&x.2 == q:=λl=>by
  rw[List.any_map];rfl
 simp only[zJ];rw[e,e,h]
def Mz{ts:List yd}(h:ts.map fJ=ts'.map fJ)(p a q:Nat):yV ⟨p,ts⟩ q=yV ⟨a,ts'⟩ q:=by
 unfold yV;have:zJ ⟨p,ts⟩=zJ ⟨a,ts'⟩:=funext (N7 h p a);rw[this]
def MY(p:Nat)(ts:List yd)(t:yd):fJ (jt p ts t)=fJ t:=by
 unfold jt;split<;>rfl
def vJ(ts:List yd)(k:Nat):List yd:=(ts.take k).map (jt 0 ts)++ts.drop k
def AS(ts:List yd)(k:Nat):(vJ ts k).map fJ=ts.map fJ:=by
 unfold vJ;rw[vg,mT,List.map_drop,show(fJ ∘ jt 0 ts)=fJ from funext (MY 0 ts),List.map_take,jx]
def NN(ts:List yd)(k:Nat):(vJ ts k).length=ts.length:=by
 have:=congrArg List.length (AS ts k);simpa using this
def OH(ts:List yd)(k:Nat)(a:k<ts.length):(vJ ts k)[k]?=some ts[k]:=by
 unfold vJ;rw[d9 (by simp;omega),xY,qG,fF (by omega),jv,List.getElem?_drop];simp[a]
def Hu(ts:List yd)(k:Nat)(a:k<ts.length):(vJ ts k).set k (jt 0 ts ts[k])=vJ ts (k+1):=by
 unfold vJ;rw[fm _ _ (by simp;omega),xY,qG,fF (by omega),jv,xh a,nZ,yP a,vg,kz];rfl
def Mj(ts:List yd):vJ ts 0=ts:=by simp[vJ]
def Et(ts:List yd):vJ ts ts.length=ts.map (jt 0 ts):=by simp[vJ]
def LM{l:zw}{q:Nat}(a:q<=1000000):(yV l q).getD 0<=1000000:=by
 unfold yV;split;have:=sj (p:=zJ l) (l:=List.range q);simp at this ⊢;omega;simp
def G8(ns:κ)(x:ByteArray):(uy ns x).getD 0<=ns.length:=by
 unfold uy;split;simp;omega;simp
def PC(vs:κ)(a:List Nat)(n:ByteArray)(h:∀x∈a,x<=1000):uJ vs a n<=1000:=by
 unfold uJ;split;omega;split;omega;rename_i k _ _;by_cases b:k<a.length;rw[ks,yi b];exact h _ (zt b);rw[ks,kM (by omega)];simp
def NF(ns vs:κ)(a:List Nat)(x:ByteArray)(h:∀y∈a,y<=1000)(b:ns.length<=1000):(uF ns vs a x).num<=1000/\(uF ns vs a x).level=0:=by
 unfold uF;split;exact⟨PC vs a x h,rfl⟩;have:=G8 ns x;exact⟨by simp only;omega,rfl⟩
def Az{α:Type}{l:List α}{k:Nat}{x:α}(h:l[k]?=some x):l.set k x=l:=by
 obtain⟨a,e⟩:=kf.1 h;rw[←e];exact sD a
def NV(ts:List yd)(k:Nat)(t:yd)(b:Nat)(h:ts[k]?=some t):(RQ (ts.map kh)).set (k*3+2) (ι b)=RQ ((ts.set k {t with level:=b}).map kh):=by
 obtain⟨f,e⟩:=kf.1 h;have a:k<(ts.map kh).length:=by simpa using f
 have q:=oy (ts.map kh) k a (.bool t.var) (ι t.num) (ι b);obtain⟨d,c,_⟩:=tU (ts.map kh) k a;simp only[xV,e,kh] at d c;rw[Az d,Az c] at q;rw[q,gA];rfl
def dN(ts:List yd)(k:Nat):List yd:=ts.take k++List.replicate (ts.length-k) ⟨false,0,0⟩
def JO(ts:List yd)(k:Nat)(a:k<=ts.length):(dN ts k).length=ts.length:=by simp[dN];omega
def Ir(ts:List yd)(k:Nat)(a:k<ts.length):(dN ts k).set k ts[k]=dN ts (k+1):=by
 unfold dN;obtain⟨m,b⟩:∃m,ts.length-k=m+1:=⟨ts.length-k-1,by omega⟩;rw[fm _ _ (by simp;omega),qG,fF (by omega),jv,b,re,nZ,show ts.length-(k+1)=m from by omega,yP a,kz];rfl
def J9(ts:List yd):dN ts ts.length=ts:=by simp[dN]
def Es(ts:List yd)(k:Nat)(h:∀x∈ts,x.num<=1000/\x.level=0):∀x∈vJ ts k,x.num<=1000000/\x.level<=1000000:=by
 intro x a;unfold vJ at a;rw[zW] at a;rcases a with a|a;rw[zE] at a;obtain⟨y,b,rfl⟩:=a;have:=h y (dJ b);unfold jt;split;exact⟨by simp only;omega,LM (by omega)⟩;omega;have:=h x (dT a);omega
def iL{w:World}{d:Nat}{e:TypeId}{g n cap m:Nat}{f:List (Value×Value×Value)}(h:w.ownsRow d e 3 (.slice (some ⟨g,0,none⟩) n cap) m (RQ f))(k:Nat)(i:k<f.length):
  ∃a b c,g<w.heap.size/\w.cell? ⟨g,k*3,none⟩=some a/\w.cell? ⟨g,k*3+1,none⟩=some b/\w.cell? ⟨g,k*3+2,none⟩=some c:=⟨_,_,_,tC h k i⟩
def Bm{a5 a4:Nat}(w:World)(mb tb o cb sb:Nat)(t:List zg)(ns vs:κ)(s:List Nat)(l:zk)(va:Value)(h:mW lo w mb tb o cb t ns)(hs:gJ a5 w sb vs s)(hl:vs.length<=1000)(ay:∀y∈s,y<=1000)(ha:R7 a4 w va l.args)(ae:l.args.length<=1000):
  Calls prog 160 #[(π mb),.agg #[.bool l.neg,.string l.pred,va],(π sb)] w λe M=>∃tv,e=ε (.agg #[ι (zF t l.pred:Nat),tv])/\yn w.heap.size M tv (zK t ns vs s l).qg/\μ w M:=by
 obtain⟨i0,hi,aG,a6,aB⟩:=info_parts QK;obtain⟨ao,A,rfl⟩:=ha.qy;have aj:=λW:World=>run_make (P:=prog) (w:=W) 202 284 i0 _ underlying202 hi aG .i64 .i64 (l.args.length:Int) (l.args.length:Int) (by omega) (Int.le_refl _) (by rw[aB];omega) (by omega);rw[a6] at aj;have HF:=Ry λW K=>eW lo W tb o t l.pred (h.2.1.below K) h.2.2.2.1;have HT:=Ry λW x K=>PA W mb tb o cb sb t ns vs s x (h.below K) (hs.below K) hl;have V:Hid (∀x∈uf ns vs s l,x.num<=1000/\x.level=0):=λx hx=>by
  simp only[uf,zE] at hx;obtain⟨y,_,rfl⟩:=hx;exact NF ns vs s y ay h.2.2.2.2
 have HE:Hid ((zK t ns vs s l).qg=(uf ns vs s l).map (jt 0 (uf ns vs s l))):=rfl;have n:(uf ns vs s l).length=l.args.length:=by simp[uf]
 have al:Hid (∀k (hk:k<l.args.length) (a7:k<(uf ns vs s l).length),uF ns vs s l.args[k]=(uf ns vs s l)[k]):=λk hk a7=>by simp[uf]
 obtain⟨af,aq,aL⟩:=h.1.boxed;have a2:w.cell? ⟨mb,0,none⟩=some (.pointer (some ⟨tb,o,none⟩)):=by rw[af];rfl
 clear h hs af;generalize uf ns vs s l=b at *;generalize zF t l.pred=G at *;generalize (zU t l.pred).isSome=fb at *;go_enter func160,ntmps160;go_upto_region 1 with fail
 go_quiet ((go_at_call 77;exact Calls.quiet_of_same (HF.out _ (by exact(by repeat'(first|with_reducible(first|apply zR|assumption|apply zN|apply zA|apply zD|apply zS)|go_size))))))
 go_upto_region 4 with fail
 have a:=zB (JP ((((w.alloc (.cells #[.bool l.neg,.string l.pred,.slice ao l.args.length A] 90)).alloc (.cells #[ι 0,ν] 204)).drewN nq)) l.args.length 284 (.bool false) (ι 0) (ι 0) (by unfold maxLen;omega)) ((zp _ _).alloc (zf _) (.cells #[ι G,.slice (some ⟨w.heap.size+1+1,0,none⟩) l.args.length l.args.length] 204));have c:=Rz.new ((((w.alloc (.cells #[.bool l.neg,.string l.pred,.slice ao l.args.length A] 90)).alloc (.cells #[ι 0,ν] 204)).drewN nq).alloc (.cells (madeCells #[.bool false,ι 0,ι 0] (l.args.length*3)) 284)) #[ι G,.slice (some ⟨w.heap.size+1+1,0,none⟩) l.args.length l.args.length] 204;have d:=(((Rz.new (w.alloc (.cells #[.bool l.neg,.string l.pred,.slice ao l.args.length A] 90)) #[ι 0,ν] 204).below (zI (zp _ _) nq)).below ((zp _ _).alloc (zf _) (.cells (madeCells #[.bool false,ι 0,ι 0] (l.args.length*3)) 284))).below ((zp _ _).alloc (zf _) (.cells #[ι G,.slice (some ⟨w.heap.size+1+1,0,none⟩) l.args.length l.args.length] 204));have T:μ w (((((w.alloc (.cells #[.bool l.neg,.string l.pred,.slice ao l.args.length A] 90)).alloc (.cells #[ι 0,ν] 204)).drewN nq).alloc (.cells (madeCells #[.bool false,ι 0,ι 0] (l.args.length*3)) 284)).alloc (.cells #[ι G,.slice (some ⟨w.heap.size+1+1,0,none⟩) l.args.length l.args.length] 204)):=(by repeat'(first|with_reducible(first|apply zR|assumption|apply zN|apply zA|apply zD|apply zS)|go_size));have J:(((w.alloc (.cells #[.bool l.neg,.string l.pred,.slice ao l.args.length A] 90)).alloc (.cells #[ι 0,ν] 204)).drewN nq).heap.size=w.heap.size+1+1:=by simp
 simp only[World.size_alloc,J] at a c d;clear J;generalize ((((w.alloc (.cells #[.bool l.neg,.string l.pred,.slice ao l.args.length A] 90)).alloc (.cells #[ι 0,ν] 204)).drewN nq).alloc (.cells (madeCells #[.bool false,ι 0,ι 0] (l.args.length*3)) 284)).alloc (.cells #[ι G,.slice (some ⟨w.heap.size+1+1,0,none⟩) l.args.length l.args.length] 204)=w3 at *;have ar:=T.size;have H0:Hid (RQ (List.replicate l.args.length (Value.bool false,Value.int .i64 0,Value.int .i64 0))=RQ ((dN b 0).map kh)):=by
  rw[Hid,dN,List.take_zero,po,Nat.sub_zero,n,List.map_replicate];rfl
 rw[H0.out] at a;clear H0 aj a2 aq HF;have a:=yk a (show w.heap.size<=w.heap.size+1+1 by omega);go_loopw [35] (λaA wr=>∃k:Nat,k<=l.args.length/\aA=ι k/\Rz wr (w.heap.size+1+1+1) #[ι G,.slice (some ⟨w.heap.size+1+1,0,none⟩) l.args.length l.args.length] 204/\Rz wr (w.heap.size+1) #[ι 0,ν] 204/\wr.ownsRow w.heap.size 284 3 (.slice (some ⟨w.heap.size+1+1,0,none⟩) l.args.length l.args.length) l.args.length (RQ ((dN b k).map kh))/\μ w wr) (λi _=>l.args.length-(intOf i).toNat);exact⟨0,zv _,rfl,c,d,a,T⟩;clear a c d;obtain⟨k,hk,rfl,c,d,a,j⟩:=hrel;have N:=j.size;by_cases r:k<l.args.length
 .obtain⟨g,rfl,hg,B⟩:=ha.cell k r;have aK:=zl j hg B;have aP:g<wr.heap.size:=by omega
  have u:=Ry (Ir b k (by omega));have aC:=Ry (al.out k r (by omega));have aJ:=JO b k (by omega);obtain⟨e0,e1,e2,a0,D,Q,ab⟩:=iL a k (by simp;omega);have a8:=uH a;obtain⟨F,I,H⟩:=c.boxed;have aH:wr.cell? ⟨w.heap.size+1+1+1,1,none⟩=some (.slice (some ⟨w.heap.size+1+1,0,none⟩) l.args.length l.args.length):=by rw[F];rfl
  clear B;have a1:Hid (∀W,μ wr W->Calls prog 186 #[(π mb),.string l.args[k],(π sb)] W λe M=>e=ε (.agg #[.bool b[k].var,ι (b[k].num:Nat),ι (b[k].level:Nat)])/\μ W M):=λW K=>by
   have q:=HT.out W l.args[k] (R5 j K);rw[aC.out] at q;exact q
  generalize b[k]=tk at *;generalize l.args[k]=x at *;generalize (dN b k)=lk at *;go_wp2;go_region_held3 (λM=>M.cell? ⟨w.heap.size+1+1+1,1,none⟩=some (.slice (some ⟨w.heap.size+1+1,0,none⟩) l.args.length l.args.length)) (first|go_keep|(go_simp;done)) (first|(go_at_call 186;refine(a1.out _ (by exact(by repeat'(first|with_reducible(first|apply zR|assumption|apply zN|apply zA|apply zD|apply zS)|go_size)))).mono ?_;rintro e Z ⟨rfl,O⟩;have m:μ wr Z:=(zM (by repeat'(first|with_reducible(first|apply zR|assumption|apply zN|apply zA|apply zD|apply zS)|go_size)) O (zf _));have E:=c.below m;have U:=d.below m;have p:=zB a m;obtain⟨ah,an,am⟩:=E.boxed;obtain⟨f0,f1,f2,ax,az,aE,aD⟩:=iL p k (by simp;omega);have ai:=uH p;have a9:=m.size))
  have f:=OJ p k (by simp;omega) (.bool tk.var) (ι tk.num) (ι tk.level);have HM:(lk.map kh).set k (.bool tk.var,ι tk.num,ι tk.level)=(dN b (k+1)).map kh:=by rw[←u.out,gA];rfl
  rw[HM] at f;have X:=((E.set_ne (show w.heap.size+1+1+1≠w.heap.size+1+1 by omega) (k*3) (.bool tk.var)).set_ne (show w.heap.size+1+1+1≠w.heap.size+1+1 by omega) (k*3+1) (ι tk.num)).set_ne (show w.heap.size+1+1+1≠w.heap.size+1+1 by omega) (k*3+2) (ι tk.level);have aa:=((U.set_ne (show w.heap.size+1≠w.heap.size+1+1 by omega) (k*3) (.bool tk.var)).set_ne (show w.heap.size+1≠w.heap.size+1+1 by omega) (k*3+1) (ι tk.num)).set_ne (show w.heap.size+1≠w.heap.size+1+1 by omega) (k*3+2) (ι tk.level);have R:μ w (((Z.setCell ⟨w.heap.size+1+1,k*3,none⟩ (.bool tk.var)).setCell ⟨w.heap.size+1+1,k*3+1,none⟩ (ι tk.num)).setCell ⟨w.heap.size+1+1,k*3+2,none⟩ (ι tk.level)):=(((R5 j m).setCell (by simp;omega) _).setCell (by simp;omega) _).setCell (by simp;omega) _;generalize ((Z.setCell ⟨w.heap.size+1+1,k*3,none⟩ (.bool tk.var)).setCell ⟨w.heap.size+1+1,k*3+1,none⟩ (ι tk.num)).setCell ⟨w.heap.size+1+1,k*3+2,none⟩ (ι tk.level)=w5 at *;go_wp2;go_roundw;exact⟨k+1,by omega,by go_num,X,aa,f,R⟩;simp[intOf];omega
 obtain rfl:k=l.args.length:=by omega
 rw[←n,J9] at a;rw[←n] at c;clear r hk;obtain⟨F,I,H⟩:=c.boxed;go_wp2;clear F I H;rw[←n] at ae ⊢;clear T ar HT al n;go_loopw [52] (λap wr=>∃k:Nat,k<=b.length/\ap=ι k/\Rz wr (w.heap.size+1+1+1) #[ι G,.slice (some ⟨w.heap.size+1+1,0,none⟩) b.length b.length] 204/\Rz wr (w.heap.size+1) #[ι 0,ν] 204/\wr.ownsRow w.heap.size 284 3 (.slice (some ⟨w.heap.size+1+1,0,none⟩) b.length b.length) b.length (RQ ((vJ b k).map kh))/\μ w wr) (λi _=>b.length-(intOf i).toNat);exact⟨0,zv _,rfl,c,d,by rw[Mj];exact a,j⟩;clear a c d j N;obtain⟨k,hk,rfl,c,d,a,j⟩:=hrel;have N:=j.size;by_cases r:k<b.length
 .have aF:=NN b k;have C:=Ry (OH b k r);have u:=Ry (Hu b k r);have ac:Hid (yV ⟨G,vJ b k⟩ b[k].num=yV ⟨0,b⟩ b[k].num):=Mz (AS b k) _ _ _;have z:Hid (jt 0 b b[k]=if b[k].var then{b[k] with level:=(yV ⟨0,b⟩ b[k].num).getD 0} else b[k]):=rfl;have L:=Es b k V.out;have aI:=(V.out b[k] (zt r)).1;obtain⟨a0,D,Q,ab⟩:=tC a k (by simp;omega);have ag:k<(vJ b k).length:=by omega
  have ak:(vJ b k)[k]=b[k]:=by have q:=C.out;rw[yi ag] at q;simpa using q
  simp only[xV,ak,kh] at D Q ab;have a8:=uH a;obtain⟨F,I,H⟩:=c.boxed;have ad:Hid (yn w.heap.size wr (.slice (some ⟨w.heap.size+1+1,0,none⟩) b.length b.length) (vJ b k)):=⟨by rw[aF];exact a,by omega,L⟩;have aw:Hid (∀W,μ wr W->Calls prog 187 #[.agg #[ι G,.slice (some ⟨w.heap.size+1+1,0,none⟩) b.length b.length],ι (b[k].num:Nat)] W λe M=>e=ε (.tuple #[ι (((yV ⟨0,b⟩ b[k].num).getD 0:Nat):Int),.bool (yV ⟨0,b⟩ b[k].num).isSome])/\μ W M):=λW K=>by
   have q:=DZ W _ G b[k].num (vJ b k) (ad.out.below K) (by omega);rw[ac.out] at q;exact q
  clear ag ak ac L ad;generalize b[k]=tk at *;generalize vJ b k=S at *;generalize (yV ⟨0,b⟩ tk.num).getD 0=Y at *;generalize (yV ⟨0,b⟩ tk.num).isSome=lb at *;cases hv:tk.var
  .rw[hv] at D z;simp only[gQ,if_false] at z;go_wp2;have au:Hid (S=vJ b (k+1)):=by
    rw[Hid,←u.out,z.out];exact(Az C.out).symm
   go_roundw;exact⟨k+1,by omega,by go_num,c.below (by repeat'(first|with_reducible(first|apply zR|assumption|apply zN|apply zA|apply zD|apply zS)|go_size)),d.below (by repeat'(first|with_reducible(first|apply zR|assumption|apply zN|apply zA|apply zD|apply zS)|go_size)),by rw[←au.out];exact zB a (by repeat'(first|with_reducible(first|apply zR|assumption|apply zN|apply zA|apply zD|apply zS)|go_size)),zM j (by repeat'(first|with_reducible(first|apply zR|assumption|apply zN|apply zA|apply zD|apply zS)|go_size)) (zf _)⟩;simp[intOf];omega
  rw[hv] at D z;simp only[if_true] at z;have aO:wr.heap.size≠w.heap.size+1+1:=by omega
  go_upto_region 13 with (first|(go_at_call 187;refine(aw.out _ (by exact(by repeat'(first|with_reducible(first|apply zR|assumption|apply zN|apply zA|apply zD|apply zS)|go_size)))).mono ?_;rintro e Z ⟨rfl,O⟩;have m:μ wr Z:=(zM (by repeat'(first|with_reducible(first|apply zR|assumption|apply zN|apply zA|apply zD|apply zS)|go_size)) O (zf _));have E:=c.below m;have U:=d.below m;have p:=zB a m;obtain⟨ah,an,am⟩:=E.boxed;obtain⟨f0,f1,f2,ax,az,aE,aD⟩:=iL p k (by simp;omega);have ai:=uH p;have a9:=m.size))
  have f:=uj p (k*3+2) (by rw[sc];simp;omega) (ι Y);have X:=E.set_ne (show w.heap.size+1+1+1≠w.heap.size+1+1 by omega) (k*3+2) (ι Y);have aa:=U.set_ne (show w.heap.size+1≠w.heap.size+1+1 by omega) (k*3+2) (ι Y);have R:μ w (Z.setCell ⟨w.heap.size+1+1,k*3+2,none⟩ (ι Y)):=((R5 j m).setCell (by simp;omega) _);have HM:Hid ((RQ (S.map kh)).set (k*3+2) (ι Y)=RQ ((vJ b (k+1)).map kh)):=by
   rw[Hid,←u.out,z.out];exact NV S k tk Y C.out
  rw[HM.out] at f;clear D Q ab;go_wp2;generalize Z.setCell ⟨w.heap.size+1+1,k*3+2,none⟩ (ι Y)=w5 at *;go_roundw;exact⟨k+1,by omega,by go_num,X,aa,f,R⟩;simp[intOf];omega
 obtain rfl:k=b.length:=by omega
 rw[Et] at a;obtain⟨F,I,H⟩:=c.boxed;obtain⟨av,aM,aN⟩:=d.boxed;have a3:Hid (∀x∈b.map (jt 0 b),x.num<=1000000/\x.level<=1000000):=by rw[←Et];exact Es b _ V.out
 go_wp2
 (try simp only[Exit.inBlock,Exit.then])
 refine zO (v:=.agg #[ι G,.slice (some ⟨w.heap.size+1+1,0,none⟩) b.length b.length]) (by simp[results,results160,go_sem,av]) rfl ⟨_,rfl,?_,(j.setCell (by simp) _).setCell (by simp) _⟩;rw[HE.out];refine⟨?_,by simpa using ae,a3.out⟩;rw[xY];exact xF a (((RD.refl (w.heap.size+1) wr).setCell 0 _).setCell 1 _) d (by decide)
end
section
variable {lo:Nat}
def vA(a:List Nat)(x:Int×Nat):List Nat:=if 0<=x.1/\x.1<5 then a.set x.1.toNat x.2 else a
def yG(os:List Int):List Nat:=os.zipIdx.foldl vA [0,1,2,3,4]
def LP(a:List Nat)(x:Int×Nat):(vA a x).length=a.length:=by unfold vA;split<;>simp
def tO(os:List Int):(yG os).length=5:=by
 have:∀(l:List (Int×Nat)) (a:List Nat),(l.foldl vA a).length=a.length:=by
  intro l;induction l with
  |nil=>intro a;rfl
  |cons x l b=>intro a;rw[uu,b,LP]
 exact this _ _
def CS{os:List Int}{k:Nat}(a:k<os.length):(os.take (k+1)).zipIdx.foldl vA [0,1,2,3,4]=vA ((os.take k).zipIdx.foldl vA [0,1,2,3,4]) (os[k],k):=by
 rw[yP a,List.zipIdx_append,jr];simp only[List.zipIdx_singleton,qG,vn,uu,List.foldl_nil];rw[fF (by omega)]
def kq(a:Value)(b:List Nat):List Value:=a::b.map Sf
def Bo(a:Value)(b:List Nat)(k x:Nat):(kq a b).toArray.setIfInBounds (1+k) (ι x)=(kq a (b.set k x)).toArray:=by
 rw[Nat.add_comm];simp[kq,List.map_set,Sf]
def ma(k:Nat):List Nat:=(List.range 5).map λi=>if i<k then i else 0
def Nr(k:Nat)(a:k<5):(ma k).set k k=ma (k+1):=by
 obtain rfl|rfl|rfl|rfl|rfl:k=0∨k=1∨k=2∨k=3∨k=4:=by omega
 all_goals rfl
def BK{w:World}{a:Nat}{c:Value}{b:List Nat}(f:b.length=5)(h:Rz w a (kq c b).toArray 257):a<w.heap.size/\(∀o,w.frozen? ⟨a,o,none⟩=false)/\∀k,k<5->∃x:Nat,w.cell? ⟨a,1+k,none⟩=some (ι (x:Nat)):=by
 obtain⟨g,e⟩:=h.rules;refine⟨h.lt,e,λk d=>⟨b[k]'(by omega),?_⟩⟩;rw[g,Nat.add_comm];simp[kq,f,d,Sf]
def NM(w:World)(vs:κ)(b:List Nat)(e:Ending)(w':World):Prop:=∃a,e=ε (.agg (kq a b).toArray)/\R7 w.heap.size w' a vs/\μ w w'
def OF(w:World)(c:zd)(va vb ov:Value)(o:Option (List Int))(hs:R7 lo w va c.head.args)(X:Sc lo w vb c.body)(hl:c.head.args.length+xg c.body<=1000)(P:c.body.length<=1000)(ho:qe w ov o)(ag:(o.getD []).length<=1000):
  Calls prog 158 #[.agg #[.bool c.head.neg,.string c.head.pred,va,vb],ov] w λe w'=>NM w (zx c) (yG (o.getD [])) e w':=by
 obtain⟨ao,Z,rfl⟩:=hs.qy;obtain⟨aa,O,rfl⟩:=X.qy;obtain⟨af,ae,rfl⟩:=ho.qy;have HP:=Ry λW hW=>ou W c _ _ (hs.below hW) (X.below hW) hl P;have HO:=Ry ho;clear hs X hl P ho;go_enter func158,ntmps158;go_upto_region 2 with (first|(go_at_call 148;refine(HP.out _ (by exact(by go_grown))).mono ?_;rintro e u ⟨D,rfl,t,E⟩;obtain⟨l,b,rfl⟩:=zq t))
 have F:μ w u:=zM (by go_grown) E (zf _);have aj:=F.size;have L:R7 w.heap.size u (.slice l (zx c).length b) (zx c):=yk t (by simp;omega);have A:=(Rz.new (w.alloc (.cells #[.bool c.head.neg,.string c.head.pred,.slice ao c.head.args.length Z,.slice aa c.body.length O] 171)) #[ν,ι 0,ι 0,ι 0,ι 0,ι 0] 257).below E;rw[World.size_alloc] at A;have ai:=A.lt;have a:=Rz.new u (kq (.slice l (zx c).length b) (ma 0)).toArray 257;have z:μ u (u.alloc (.cells (kq (.slice l (zx c).length b) (ma 0)).toArray 257)):=(by go_grown);have j:=L.below z;have h:=A.below z;have d:=R5 F z;rw[show(kq (.slice l (zx c).length b) (ma 0)).toArray=#[.slice l (zx c).length b,ι 0,ι 0,ι 0,ι 0,ι 0] from rfl] at j h d;rw[show(u.alloc (.cells (kq (.slice l (zx c).length b) (ma 0)).toArray 257))=(u.alloc (.cells #[.slice l (zx c).length b,ι 0,ι 0,ι 0,ι 0,ι 0] 257)) from rfl] at a;clear t E A L HP z;generalize I:zx c=vs at *;have V:=Ry I;clear I;generalize B:Value.slice l vs.length b=D at *;generalize u.alloc (.cells #[D,ι 0,ι 0,ι 0,ι 0,ι 0] 257)=w2 at *;generalize u.heap.size=sb at *;clear F u;have U:=Ry B;clear B;go_wp2;go_loopw [12] (λac wr=>∃k:Nat,k<=5/\ac=ι k/\Rz wr sb (kq D (ma k)).toArray 257/\Rz wr (w.heap.size+1) #[ν,ι 0,ι 0,ι 0,ι 0,ι 0] 257/\R7 w.heap.size wr D vs/\μ w wr) (λi _=>5-(intOf i).toNat);exact⟨0,by omega,rfl,a,h,j,d⟩;clear a h j d;obtain⟨k,hk,rfl,a,h,j,d⟩:=hrel;have G:=d.size;by_cases s:k<5
 .have ad:(k:Int)<5:=by omega
  obtain⟨K,H,r⟩:=BK (by simp[ma]) a;obtain⟨x,hx⟩:=r k s;have m:=a.set (1+k) (ι k);rw[Bo,Nr k s] at m;clear r;go_wp2;go_roundw;exact⟨k+1,by omega,by go_num,m,h.set_ne (by omega) _ _,xF j ((RD.refl _ _).setCell _ _) a (by decide),d.setCell (by simp;omega) _⟩;simp[intOf];omega
 obtain rfl:k=5:=by omega
 clear hk s;have HF:Hid (ma 5=((o.getD []).take 0).zipIdx.foldl vA [0,1,2,3,4]):=rfl;rw[HF.out] at a;clear HF;go_wp2;go_loopw [22] (λR wr=>∃k:Nat,k<=(o.getD []).length/\R=ι k/\Rz wr sb (kq D (((o.getD []).take k).zipIdx.foldl vA [0,1,2,3,4])).toArray 257/\Rz wr (w.heap.size+1) #[ν,ι 0,ι 0,ι 0,ι 0,ι 0] 257/\R7 w.heap.size wr D vs/\μ w wr) (λi _=>(o.getD []).length-(intOf i).toNat);exact⟨0,by omega,rfl,a,h,j,d⟩;clear a h j d G;obtain⟨k,hk,rfl,a,h,j,d⟩:=hrel;have G:=d.size;have J:(((o.getD []).take k).zipIdx.foldl vA [0,1,2,3,4]).length=5:=tO _;by_cases s:k<(o.getD []).length
 .obtain⟨g,f,rfl,hg,hc⟩:=HO.out.cell k s;have ak:=zl d hg hc;have z:g<wr.heap.size:=by omega
  have C:=Ry (CS s);clear hc;generalize (o.getD [])[k]=x at *;generalize ((o.getD []).take k).zipIdx.foldl vA [0,1,2,3,4]=pl at *;by_cases p:0<=x/\x<5
  .obtain⟨n,rfl⟩:=Int.eq_ofNat_of_zero_le p.1;have am:=p.2;have hn:n<5:=by omega
   obtain⟨K,H,r⟩:=BK J a;obtain⟨y,hy⟩:=r n hn;have m:=a.set (1+n) (ι k);rw[Bo] at m;have q:Hid (((o.getD []).take (k+1)).zipIdx.foldl vA [0,1,2,3,4]=pl.set n k):=by rw[Hid,C.out,vA,zb p];rfl
   clear r C p;go_wp2;go_roundw;exact⟨k+1,by omega,by go_num,by rw[q.out];exact m,h.set_ne (by omega) _ _,xF j ((RD.refl _ _).setCell _ _) a (by decide),d.setCell (by simp;omega) _⟩;simp[intOf];omega
  have q:Hid (((o.getD []).take (k+1)).zipIdx.foldl vA [0,1,2,3,4]=pl):=by rw[Hid,C.out,vA,za p]
  clear C;rcases Int.lt_or_le x 0 with h0|h0
  .clear p;go_wp2;exact⟨⟨_,_,_,⟨k+1,by omega,by go_num,by rw[q.out];exact a⟩,rfl,rfl,rfl⟩,by simp[intOf];omega⟩
  have h5:5<=x:=by omega
  clear p;go_wp2;go_roundw;exact⟨k+1,by omega,by go_num,by rw[q.out];exact a,h,j,d⟩;simp[intOf];omega
 have M:Hid (((o.getD []).take k).zipIdx.foldl vA [0,1,2,3,4]=yG (o.getD [])):=by rw[Hid,xk (by omega)];rfl
 rw[M.out] at a;have H5:=tO (o.getD []);generalize N:yG (o.getD [])=pl at *;obtain⟨Y,S,T,p3,p4,rfl⟩:=five H5;have Q:=Ry N;clear N;rw[show(kq D [Y,S,T,p3,p4]).toArray=#[D,ι Y,ι S,ι T,ι p3,ι p4] from rfl] at a;obtain⟨r,H,K⟩:=a.boxed;obtain⟨ab,ah,al⟩:=h.boxed;have B:=U.out;subst B;clear J H5 M;go_wp2
 (try simp only[Exit.inBlock,Exit.then])
 refine zO (v:=.agg (kq (.slice l vs.length b) [Y,S,T,p3,p4]).toArray) (by simp[results,results158,go_sem,ab,kq,Sf]) rfl ⟨_,by rw[Q.out],?_,?_⟩;rw[V.out];exact xF j (by repeat'(first|with_reducible(first|apply xR|assumption|apply xN|apply xA|apply xD|apply xS|apply xT)|go_size)) h (by decide);exact(((((d.setCell (by simp) _).setCell (by simp) _).setCell (by simp) _).setCell (by simp) _).setCell (by simp) _).setCell (by simp) _
def ue(os:Option (List (Option (List Int))))(k:Nat):Option (List Int):=(os.getD []).getD k none
def Jo(w:World)(c:Value)(os:Option (List (Option (List Int))))(k:Nat)(h:j0 w c os)(j:(os.getD []).length<=2000000):
  Calls prog 116 #[c,ι k] w λe l=>∃u,e=.returned u/\qe w u (ue os k)/\l=w:=by
 obtain⟨o,d,rfl⟩:=h.qy;by_cases a:k<(os.getD []).length
 .obtain⟨g,f,u,rfl,n,p,m⟩:=h.cell k a;have b:Hid (ue os k=(os.getD [])[k]):=by simp[Hid,ue,a]
  have i:=Ry m;go_enter func116,ntmps116;go_wp2;go_ret;exact⟨_,rfl,by rw[b.out];exact i.out,rfl⟩
 have b:Hid (ue os k=none):=by simp[Hid,ue,List.getD_eq_getElem?_getD,List.getElem?_eq_none (Nat.not_lt.1 a)]
 go_enter func116,ntmps116;go_wp2;go_ret;exact⟨_,rfl,by rw[b.out];rfl,rfl⟩
def vO(t:List zg)(ns:κ)(c:zd):qV:=⟨zF t c.head.pred,zG (zK t ns [] [0,0,0,0,0] c.head) [0,0,0,0,0]⟩
def Bl(f:qV):Value:=.agg #[ι f.pred,ι (f.row.getD 0 0:Nat),ι (f.row.getD 1 0:Nat),ι (f.row.getD 2 0:Nat)]
def QB{s:Nat}(w:World)(H tb o cb:Nat)(t:List zg)(ns:κ)(c:zd)(T vb:Value)(h:mW lo w H tb o cb t ns)(hs:R7 s w T c.head.args)(U:Sc s w vb c.body)(J:c.head.args.length<=1000):
  Calls prog 118 #[(π H),.agg #[.bool c.head.neg,.string c.head.pred,T,vb]] w λe n=>e=ε (Bl (vO t ns c))/\μ w n:=by
 obtain⟨Y,u,rfl⟩:=hs.qy;obtain⟨A,i,rfl⟩:=U.qy;have N:=Ry λW P (R:μ w W) (b:gJ 0 W P [] [0,0,0,0,0])=>Bm W H tb o cb P t ns [] [0,0,0,0,0] c.head _ (h.below R) b (by simp) (by simp) (hs.below R) J;have HR:Hid (∀W v (V:Nat),yn V W v (zK t ns [] [0,0,0,0,0] c.head).qg->Calls prog 161 #[.agg #[ι (zF t c.head.pred:Nat),v],rt 0 0 0 0 0] W λr n=>r=ε (.agg #[ι (((vO t ns c).row.getD 0 0:Nat):Int),ι (((vO t ns c).row.getD 1 0:Nat):Int),ι (((vO t ns c).row.getD 2 0:Nat):Int)])/\μ W n):=λW v V B=>ik W v (zF t c.head.pred) _ 0 0 0 0 0 B;have HE:Hid (Bl (vO t ns c)=.agg #[ι (zF t c.head.pred:Nat),ι ((vO t ns c).row.getD 0 0:Nat),ι ((vO t ns c).row.getD 1 0:Nat),ι ((vO t ns c).row.getD 2 0:Nat)]):=rfl;clear h hs U;have b:=Rz.new ((w.alloc (.cells #[.bool c.head.neg,.string c.head.pred,.slice Y c.head.args.length u,.slice A c.body.length i] 171)).alloc (.cells #[ι 0,ι 0,ι 0,ι 0] 210)) #[ν,ι 0,ι 0,ι 0,ι 0,ι 0] 257;have k:=(Rz.new (w.alloc (.cells #[.bool c.head.neg,.string c.head.pred,.slice Y c.head.args.length u,.slice A c.body.length i] 171)) #[ι 0,ι 0,ι 0,ι 0] 210).below ((zp _ _).alloc (zf _) (.cells #[ν,ι 0,ι 0,ι 0,ι 0,ι 0] 257));simp only[World.size_alloc] at b k;generalize (vO t ns c).row.getD 0 0=x at *;generalize (vO t ns c).row.getD 1 0=y at *;generalize (vO t ns c).row.getD 2 0=z at *;generalize (zK t ns [] [0,0,0,0,0] c.head).qg=E at *;generalize zF t c.head.pred=D at *;go_enter func118,ntmps118;go_upto_region 3 with (first|(go_at_call 160;refine(N.out _ _ (by exact(by go_grown)) (by exact⟨_,0,0,0,0,0,rfl,b,R7.nil _⟩)).mono ?_;rintro e g ⟨tv,rfl,B,m⟩;obtain⟨d,a,rfl⟩:=B.qy))
 have C:μ w g:=zM (by go_grown) m (zf _);have j:=k.below m;clear b k N;have ad:=j.lt;have f:μ g (g.alloc (.cells #[ι D,.slice d E.length a] 204)):=(by go_grown);have F:=Rz.new g #[ι D,.slice d E.length a] 204;have K:=j.below f;have G:Hid (yn _ _ _ E):=B.below f;have q:=R5 C f;clear B j m f;generalize g.alloc (.cells #[ι D,.slice d E.length a] 204)=O at *;generalize g.heap.size=lb at *;clear C g;obtain⟨X,aa,S⟩:=F.boxed;have ae:=q.size;go_region_held3 (λn=>n.cell? ⟨lb,0,none⟩=some (ι D)/\n.cell? ⟨lb,1,none⟩=some (.slice d E.length a)) (first|go_keep|(go_simp;done)) (first|(go_at_call 161;refine(HR.out _ _ _ (by exact G.out.below (by go_grown))).mono ?_;rintro e w3 ⟨rfl,L⟩;have l:μ O w3:=(zM (by go_grown) L (zf _));have M:=F.below l;have I:=K.below l;obtain⟨Z,Q⟩:=M.rules;obtain⟨p,ab,ac⟩:=I.boxed))
 all_goals
  go_wp2
  (try simp only[Exit.inBlock,Exit.then])
  exact zO (v:=.agg #[ι D,ι x,ι y,ι z]) (by simp[results,results118,go_sem,p]) rfl ⟨by rw[HE.out],((((R5 q l).setCell (by simp) _).setCell (by simp) _).setCell (by simp) _).setCell (by simp) _⟩
end
end Go.Proofs.YteampbddflhngaaGreat

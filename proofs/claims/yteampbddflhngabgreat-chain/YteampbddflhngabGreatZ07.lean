import Derived.Test.YteampbddflhngabGreatZ06
import Derived.Deep.OwnRows

namespace Go.Proofs.YteampbddflhngabGreat
set_option maxRecDepth 100000
set_option maxHeartbeats 1000000
open Go.RowKit
variable {lo:Nat}
theorem zqv{t t':List zar}{l:zbz}(h:zo7 t l=some t'):t'.length<=t.length+1:=by
 unfold zo7 at h
 split at h
 ·split at h <;> simp at h;subst h;omega
 ·simp at h;subst h;rw[zea];omega
theorem z0a{t t':List zar}{l:zbz}(h:zo7 t l=some t')(hz:∀ e∈t,e.stratum<=0):∀ e∈t',e.stratum<=0:=by
 unfold zo7 at h
 split at h
 ·split at h <;> simp at h;subst h;exact hz
 ·simp at h;subst h
  intro e he
  unfold zgj at he
  rcases List.mem_append.1 he with he|he
  ·exact hz e (List.mem_of_mem_take he)
  ·rcases List.mem_cons.1 he with he|he
   ·subst he;exact Nat.le_refl _
   ·exact hz e (List.mem_of_mem_drop he)
def zms(o:Option (List zar))(l:zbz):Option (List zar):=o.bind (zo7 · l)
def za1(c:zab):List zbz:=c.head::c.body
def zgh(cs:List zab):Option (List zar):=(cs.flatMap za1).foldl zms (some [])
theorem zik(ls:List zbz):ls.foldl zms none=none:=by
 induction ls with
 |nil=>rfl
 |cons a ls ih=>exact ih
theorem znb:∀(ls:List zbz) (t:List zar),(∀ e∈t,e.stratum<=0)->∀ t',ls.foldl zms (some t)=some t'->∀ e∈t',e.stratum<=0
 |[],t,hz,t',h=>by simp at h;subst h;exact hz
 |l::ls,t,hz,t',h=>by
  simp only[List.foldl_cons] at h
  cases ha:zo7 t l with
  |none=>rw[show zms (some t) l=none from ha,zik] at h;cases h
  |some t2=>rw[show zms (some t) l=some t2 from ha] at h;exact znb ls t2 (z0a ha hz) t' h
theorem zqs:∀(ls:List zbz) (t:List zar),∀ t',ls.foldl zms (some t)=some t'->t'.length<=t.length+ls.length
 |[],t,t',h=>by simp at h;subst h;simp
 |l::ls,t,t',h=>by
  simp only[List.foldl_cons] at h
  cases ha:zo7 t l with
  |none=>rw[show zms (some t) l=none from ha,zik] at h;cases h
  |some t2=>rw[show zms (some t) l=some t2 from ha] at h;have:=zqs ls t2 t' h;have:=zqv ha;simp;omega
theorem z3d(B:Nat)(w:World)(tb:Nat)(t:List zar)(l:zbz)(aoa:Option Addr)(capa:Nat)(h:TA B w tb t)(hl:t.length<=1000)(hn:zo7 t l=none) :
  Calls Tryz.prog 63 #[.pointer (some ⟨tb,0,none⟩),.agg #[.bool l.neg,.string l.pred,.slice aoa l.args.length capa]] w fun e w'=>e=.returned (.bool false)/\Below w.heap.size w w':=by
 unfold zo7 at hn
 split at hn
 ·rename_i e0 he
  split at hn
  ·cases hn
  ·rename_i hne
   have:=zxp B w tb t l aoa capa h hl e0 he
   rw[decide_eq_false hne] at this
   exact this
 ·cases hn
theorem zxq(B:Nat)(w:World)(tb:Nat)(t t2:List zar)(l:zbz)(aoa:Option Addr)(capa:Nat)(h:TA B w tb t)(hl:t.length<=1000)(hn:zo7 t l=some t2)(hB:B<=w.heap.size)(hBt:B<=tb) :
  Calls Tryz.prog 63 #[.pointer (some ⟨tb,0,none⟩),.agg #[.bool l.neg,.string l.pred,.slice aoa l.args.length capa]] w fun e w'=>e=.returned (.bool true)/\TA B w' tb t2/\Below B w w'/\zg9 tb w w':=by
 unfold zo7 at hn
 split at hn
 ·rename_i e0 he
  split at hn
  ·rename_i heq
   simp at hn
   subst hn
   have:=zxp B w tb t l aoa capa h hl e0 he
   rw[decide_eq_true heq] at this
   refine this.mono ?_
   rintro e w' ⟨rfl,hb⟩
   exact⟨rfl,h.below hb,hb.mono hB,zg9.of hb⟩
  ·cases hn
 ·rename_i he
  simp at hn
  subst hn
  exact z6b B w tb t l aoa capa h hl he hB hBt
def zqo(o:Option (List zar))(w:World)(e:Ending)(w':World):Prop :=
 Below w.heap.size w w'/\match o with
  |none=>e=.returned (.tuple #[.agg #[.slice none 0 0],.bool false])
  |some t=>∃ pv,e=.returned (.tuple #[.agg #[pv],.bool true])/\w'.ownsRow w.heap.size 138 3 pv t.length (zcc t)
theorem znh{o:Option (List zar)}{w w':World}(h:Hid (o=none))(hb:Below w.heap.size w w'):zqo o w (.returned (.tuple #[.agg #[.slice none 0 0],.bool false])) w':=by
 have h':o=none:=h
 subst h';exact⟨hb,rfl⟩
theorem zsc{o:Option (List zar)}{w w':World}{t:List zar}{pv:Value}(h:Hid (o=some t))(hb:Below w.heap.size w w')(ho:w'.ownsRow w.heap.size 138 3 pv t.length (zcc t)):zqo o w (.returned (.tuple #[.agg #[pv],.bool true])) w':=by
 have h':o=some t:=h
 subst h';exact⟨hb,pv,rfl,ho⟩
theorem zni(w:World)(v:Value)(cs:List zab)(hcs:CIn lo 90 w v cs)(hN:(cs.flatMap za1).length<=1000) :
  Calls Tryz.prog 40 #[v] w fun e w'=>zqo (zgh cs) w e w':=by
 obtain⟨ao,cap,rfl⟩:=hcs.shape
 have hcl:cs.length<=1000:=by
  have:cs.length<=(cs.flatMap za1).length:=by
   clear hN hcs
   induction cs with
   |nil=>simp
   |cons c cs ih=>simp[za1] at ih ⊢;omega
  omega
 go_enter Tryz.func40,Tryz.ntmps40
 go_wp2
 go_loopw [11] (fun i wr=>∃(k:Nat) (tk:List zar),k<=cs.length/\i=.int .i64 k/\Below w.heap.size w wr/\TA w.heap.size wr (w.heap.size+1) tk/\Box wr w.heap.size #[.slice none 0 0] 84/\tk.length+((cs.drop k).flatMap za1).length<=1000/\Hid (zgh cs=((cs.drop k).flatMap za1).foldl zms (some tk))) (fun i _=>cs.length - (intOf i).toNat)
 case atStart =>
  have hb1:=(Below.refl w.heap.size w).alloc (Nat.le_refl _) (.cells #[.slice none 0 0] 84)
  exact⟨0,[],Nat.zero_le _,rfl,(by go_grown),⟨_,Box.newAt _ _ _ _ (by simp),World.ownsRow_nil _ _ _ _⟩,(Box.new w _ _).below ((Below.refl _ _).alloc (Nat.le_refl _) _),(by simpa using hN),rfl⟩
 case round =>
  obtain⟨k,tk,hk,rfl,hbk,htk,hres,hnk,H⟩:=hrel
  have hszk:=hbk.size
  have hres1:=hres.lt
  have htl:w.heap.size+1 < wr.heap.size:=by obtain⟨_,hb,_⟩:=htk;exact hb.lt
  by_cases hlt:k < cs.length
  ·have hdr:=List.drop_eq_getElem_cons hlt
   obtain⟨g,ao2,cap2,ao3,cap3,rfl,hg,hc0,hc1,hc2,hc3,hsk,hlk⟩:=hcs.cell k hlt
   have hd0:=(hbk.cell (p:=⟨g,k * 4,none⟩) hg).trans hc0
   have hd1:=(hbk.cell (p:=⟨g,k * 4+1,none⟩) hg).trans hc1
   have hd2:=(hbk.cell (p:=⟨g,k * 4+2,none⟩) hg).trans hc2
   have hd3:=(hbk.cell (p:=⟨g,k * 4+3,none⟩) hg).trans hc3
   have hgr:g < wr.heap.size:=by omega
   clear hc0 hc1 hc2 hc3 hsk
   generalize cs[k]=c at *
   rw[hdr] at hnk
   have H1:Hid (zgh cs=(c.body++(cs.drop (k+1)).flatMap za1).foldl zms (zms (some tk) c.head)):=by rw[Hid,H.out,hdr];rfl
   simp only[List.flatMap_cons,za1,List.length_append,List.length_cons] at hnk
   generalize hR:(cs.drop (k+1)).flatMap za1=rest at *
   have HR:Hid ((cs.drop (k+1)).flatMap za1=rest):=hR
   clear hR H hdr
   cases hA:zo7 tk c.head with
   |none =>
    have HA:Hid (zo7 tk c.head=none):=hA
    have HF:Hid (zgh cs=none):=by rw[Hid,H1.out,show zms (some tk) c.head=none from hA,zik]
    clear H1 hA
    go_wp2_with (first|(go_at_call 63;refine(z3d w.heap.size _ (w.heap.size+1) tk c.head _ _ (by exact htk.below (by go_grown)) (by omega) HA).mono ?_;rintro e w1 ⟨rfl,hb1⟩;have hB1:=zae ((Below.refl wr.heap.size wr).alloc (Nat.le_refl _) _) hb1 (Nat.le_refl _);have hBB:=zae hbk hB1 (Nat.le_refl _);have hres2:=hres.below hB1;obtain⟨hrc,hrf⟩:=hres2.rules;have hz2:=hres2.lt))
    exact bodyPost_ret (v:=.tuple #[.agg #[.slice none 0 0],.bool false]) (by simp[results,Tryz.results40,go_sem,hrc]) rfl (znh HF (by go_grown))
   |some t1 =>
    have HA:Hid (zo7 tk c.head=some t1):=hA
    have hl1:=zqv hA
    have H2:Hid (zgh cs=(c.body++rest).foldl zms (some t1)):=by rw[Hid,H1.out,show zms (some tk) c.head=some t1 from hA]
    clear H1 hA
    go_wp2_with (first|(go_at_call 63;refine(zxq w.heap.size _ (w.heap.size+1) tk t1 c.head _ _ (by exact htk.below (by go_grown)) (by omega) HA (by exact Nat.le_trans hszk (by simp)) (by omega)).mono ?_;rintro e w1 ⟨rfl,ht1,hb1,hkp1⟩;have hBB:Below w.heap.size w w1:=(hbk.alloc hszk _).trans hb1;have hres2:=hkp1.box _ _ _ (by omega) (by decide) (hres.below ((Below.refl _ _).alloc (Nat.le_refl _) _));have hcb:=hkp1.box _ _ _ (by omega) (by decide) (Box.new wr _ _);obtain⟨hcc,hcf⟩:=hcb.rules;have hzc:=hcb.lt;have hz2:=hres2.lt))
    go_loopw [23] (fun i wj=>∃(j:Nat) (tj:List zar),j<=c.body.length/\i=.int .i64 j/\Below w.heap.size w wj/\TA w.heap.size wj (w.heap.size+1) tj/\Box wj w.heap.size #[.slice none 0 0] 84/\tj.length+(c.body.drop j).length+rest.length<=1000/\Hid (zgh cs=(c.body.drop j++rest).foldl zms (some tj))) (fun i _=>c.body.length - (intOf i).toNat)
    case atStart=>exact⟨0,t1,Nat.zero_le _,rfl,hBB,ht1,hres2,(by simp;omega),H2⟩
    case round =>
     clear hcc hcf hcb hzc
     obtain⟨j,tj,hj,rfl,hbj,htj,hresj,hnj,HJ⟩:=hrel
     have hszj:=hbj.size
     have hresl:=hresj.lt
     by_cases hjl:j < c.body.length
     ·obtain⟨gl,aol,capl,rfl,hgl,hl0,hl1',hl2',_⟩:=hlk.cell j hjl
      have he0:=(hbj.cell (p:=⟨gl,j * 3,none⟩) hgl).trans hl0
      have he1:=(hbj.cell (p:=⟨gl,j * 3+1,none⟩) hgl).trans hl1'
      have he2:=(hbj.cell (p:=⟨gl,j * 3+2,none⟩) hgl).trans hl2'
      have hgj:gl < wr.heap.size:=by omega
      have hdj:=List.drop_eq_getElem_cons hjl
      clear hl0 hl1' hl2'
      generalize c.body[j]=a at *
      rw[hdj] at hnj
      have HJ1:Hid (zgh cs=(c.body.drop (j+1)++rest).foldl zms (zms (some tj) a)):=by rw[Hid,HJ.out,hdj];rfl
      simp only[List.length_cons] at hnj
      clear hdj HJ
      cases hA:zo7 tj a with
      |none =>
       have HA:Hid (zo7 tj a=none):=hA
       have HF:Hid (zgh cs=none):=by rw[Hid,HJ1.out,show zms (some tj) a=none from hA,zik]
       clear HJ1 hA
       go_wp2_with (first|(go_at_call 63;refine(z3d w.heap.size _ (w.heap.size+1) tj a _ _ (by exact htj.below (by go_grown)) (by omega) HA).mono ?_;rintro e w3 ⟨rfl,hb3⟩;have hB3:=zae ((Below.refl wr.heap.size wr).alloc (Nat.le_refl _) _) hb3 (Nat.le_refl _);have hBB3:=zae hbj hB3 (Nat.le_refl _);have hres3:=hresj.below hB3;obtain⟨hrc,hrf⟩:=hres3.rules;have hz3:=hres3.lt))
       exact bodyPost_ret (v:=.tuple #[.agg #[.slice none 0 0],.bool false]) (by simp[results,Tryz.results40,go_sem,hrc]) rfl (znh HF (by go_grown))
      |some t2 =>
       have HA:Hid (zo7 tj a=some t2):=hA
       have hl2:=zqv hA
       have HJ2:Hid (zgh cs=(c.body.drop (j+1)++rest).foldl zms (some t2)):=by rw[Hid,HJ1.out,show zms (some tj) a=some t2 from hA]
       have htjl:w.heap.size+1 < wr.heap.size:=by obtain⟨_,hb,_⟩:=htj;exact hb.lt
       clear HJ1 hA
       go_wp2_with (first|(go_at_call 63;refine(zxq w.heap.size _ (w.heap.size+1) tj t2 a _ _ (by exact htj.below (by go_grown)) (by omega) HA (by exact Nat.le_trans hszj (by simp)) (by omega)).mono ?_;rintro e w3 ⟨rfl,ht3,hb3,hkp3⟩;have hBB3:Below w.heap.size w w3:=(hbj.alloc hszj _).trans hb3;have hres3:=hkp3.box _ _ _ (by omega) (by decide) (hresj.below ((Below.refl _ _).alloc (Nat.le_refl _) _))))
       go_roundw
       case rel=>exact⟨j+1,t2,by omega,by go_num,hBB3,ht3,hres3,by omega,HJ2⟩
       case measure=>simp[intOf];omega
     ·have HE:Hid (zgh cs=((cs.drop (k+1)).flatMap za1).foldl zms (some tj)):=by rw[Hid,HJ.out,List.drop_eq_nil_of_le (by omega),HR.out];rfl
      have hnr:tj.length+rest.length<=1000:=by omega
      clear HJ
      go_wp2
      go_roundw
      case rel=>exact⟨k+1,tj,by omega,by go_num,hbj,htj,hresj,by rw[HR.out];exact hnr,HE⟩
      case measure=>simp[intOf];omega
  ·have HF:Hid (zgh cs=some tk):=by rw[Hid,H.out,List.drop_eq_nil_of_le (by omega)];rfl
   obtain⟨aop,capp,hbx,hown⟩:=htk.view
   obtain⟨hc,hf⟩:=hbx.rules
   obtain⟨hrc,hrf⟩:=hres.rules
   have hbxl:=hbx.lt
   clear H
   go_wp2
   have ho2:=zb8 hown ((But.refl w.heap.size wr).setCell 0 (.slice aop tk.length capp)) hres (by decide)
   exact bodyPost_ret (v:=.tuple #[.agg #[.slice aop tk.length capp],.bool true]) (by simp[results,Tryz.results40,go_sem,hrc]) rfl (zsc HF (by go_grown) ho2)
def z8x:ByteArray:=⟨#[40]⟩
def z8y:ByteArray:=⟨#[41]⟩
def z8z:ByteArray:=⟨#[46]⟩
def zz4(l:zbz):Nat:=l.args.length+1
def sumW(ls:List zbz):Nat:=ls.foldr (fun l n=>zz4 l+n) 0
def clW(c:zab):Nat:=zz4 c.head+sumW c.body
def prW(cs:List zab):Nat:=cs.foldr (fun c n=>clW c+n) 0
theorem zxh:∀(r:List Tok) {ts:List ByteArray} {r2:List Tok},zbr r=some (ts,r2)->ts.length+r2.length<=r.length
 |[],_,_,h=>by simp[zbr] at h
 |[x],ts,r2,h=>by
  simp only[zbr] at h
  split at h <;> simp at h
  obtain⟨rfl,rfl⟩:=h;simp
 |x::y::r,ts,r2,h=>by
  simp only[zbr] at h
  split at h
  ·split at h
   ·cases hq:zbr r with
    |none=>rw[hq] at h;simp at h
    |some z =>
     obtain⟨ts',r'⟩:=z
     rw[hq] at h;simp at h
     have:=zxh r hq
     obtain⟨rfl,rfl⟩:=h;simp;omega
   ·simp at h;obtain⟨rfl,rfl⟩:=h;simp;omega
  ·simp at h
theorem zvt{r r2:List Tok}{a:zbz}(h:zed r=some (a,r2)):zz4 a+r2.length<=r.length:=by
 cases r with
 |nil=>simp[zed,hdK] at h
 |cons x r =>
  unfold zed at h
  split at h
  ·split at h
   ·split at h
    ·simp at h
    ·rename_i ts r3 hq
     have:=zxh _ hq
     split at h <;> simp at h
     obtain⟨rfl,rfl⟩:=h;simp[zz4] at this ⊢;omega
   ·simp at h;obtain⟨rfl,rfl⟩:=h;simp[zz4];omega
  ·simp at h
theorem z8d{r r2:List Tok}{a:zbz}(h:zrt r=some (a,r2)):zz4 a+r2.length<=r.length:=by
 unfold zrt at h
 split at h
 ·cases hq:zed r.tail with
  |none=>rw[hq] at h;simp at h
  |some z =>
   obtain⟨a',r'⟩:=z
   rw[hq] at h;simp at h
   have:=zvt hq
   obtain⟨rfl,rfl⟩:=h;simp[zz4] at this ⊢;omega
 ·exact zvt h
theorem z7m{n:Nat}:∀ {r r2:List Tok} {b:List zbz},ze1 n r=some (b,r2)->sumW b+r2.length<=r.length:=by
 induction n with
 |zero=>intro r r2 b h;simp[ze1] at h
 |succ n ih =>
  intro r r2 b h
  cases hl:zrt r with
  |none=>rw[zq9 hl] at h;cases h
  |some z =>
   obtain⟨a,r3⟩:=z
   have:=z8d hl
   by_cases h6:hdK r3=6
   ·rw[zlx hl h6] at h
    cases hq:ze1 n r3.tail with
    |none=>rw[hq] at h;simp at h
    |some z =>
     obtain⟨b',r'⟩:=z
     rw[hq] at h;simp at h
     have:=ih hq
     obtain⟨rfl,rfl⟩:=h;simp[sumW] at this ⊢;omega
   ·rw[zly hl h6] at h;simp at h;obtain⟨rfl,rfl⟩:=h;simp[sumW];omega
theorem z2j{n:Nat}{r r2:List Tok}{c:zab}(h:ze2 n r=some (c,r2)):clW c+r2.length<=r.length:=by
 unfold ze2 at h
 split at h
 ·cases h
 ·rename_i a r1 ha
  have:=zvt ha
  split at h
  ·split at h
   ·cases h
   ·rename_i b r3 hb
    have:=z7m hb
    split at h <;> simp at h
    obtain⟨rfl,rfl⟩:=h;simp[clW] at this ⊢;omega
  ·split at h <;> simp at h
   obtain⟨rfl,rfl⟩:=h;simp[clW,sumW];omega
theorem zvv{n0:Nat}:∀ {m:Nat} {r:List Tok} {cs:List zab},zes n0 m r=some cs->prW cs<=r.length
 |_,[],cs,h=>by simp[zes] at h;subst h;simp[prW]
 |0,_::_,cs,h=>by simp[zes] at h
 |m+1,x::r,cs,h=>by
  cases hc:ze2 n0 (x::r) with
  |none=>rw[zxg (by simp) hc] at h;cases h
  |some z =>
   obtain⟨c,r2⟩:=z
   rw[ztr (by simp) hc] at h
   cases hq:zes n0 m r2 with
   |none=>rw[hq] at h;simp at h
   |some cs' =>
    rw[hq] at h;simp at h;subst h
    have h1:=z2j hc
    have h2:=zvv hq
    simp only[prW,List.foldr_cons,List.length_cons] at h1 h2 ⊢;omega
theorem zoi(ls:List zbz):zce ls+ls.length=sumW ls:=by
 induction ls with
 |nil=>rfl
 |cons a ls ih=>simp[zce,sumW,zz4] at ih ⊢;omega
theorem z7n{cs:List zab}{c:zab}(h:c∈cs):clW c<=prW cs:=by
 induction cs with
 |nil=>cases h
 |cons a cs ih =>
  rcases List.mem_cons.1 h with rfl|h
  ·simp[prW]
  ·have:=ih h;simp[prW] at this ⊢;omega
theorem zxi(cs:List zab):(cs.flatMap za1).length<=prW cs:=by
 induction cs with
 |nil=>simp
 |cons a cs ih=>have:=zoi a.body;simp[prW,clW,za1,zz4] at ih ⊢;omega
theorem z2p(cs:List zab):cs.length<=prW cs:=by
 induction cs with
 |nil=>simp
 |cons a cs ih=>simp[prW,clW,zz4] at ih ⊢;omega
theorem z6n{cs:List zab}(h:prW cs<=1000):∀ c∈cs,zoq c:=fun c hc=>by
 have h1:=z7n hc
 have h2:=zoi c.body
 unfold clW zz4 at h1
 exact⟨by omega,by omega⟩
theorem zl4:∀(n:Nat) (s:ByteArray) (i:Nat) (l:List (Int × ByteArray)),splitN n s i=some l->l.length<=s.size - i
 |0,_,_,l,h=>by simp[splitN] at h;subst h;simp
 |n+1,s,i,l,h=>by
  unfold splitN at h
  split at h
  ·rename_i hi
   split at h
   ·have:=zl4 n s (i+1) l h;omega
   ·split at h
    ·cases h
    ·rename_i hk
     split at h
     ·cases h
     ·cases hq:splitN n s (znk s i (zib (bAt s i) (bAt s (i+1)))) with
      |none=>rw[hq] at h;simp at h
      |some l' =>
       rw[hq] at h;simp at h;subst h
       have:=zl4 n s _ l' hq
       have:=z04 s i _ hi rfl hk
       simp;omega
  ·simp at h;subst h;simp
theorem zqf{s:ByteArray}{l:List Tok}(h:splitB s=some l):l.length<=s.size:=by have:=zl4 _ s 0 l h;omega
def z4m(s:ByteArray):Except Int (List zab × List zar) :=
 if 500 < s.size then .error 1 else
 match splitB s with
 |none=>.error 2
 |some l =>
  match zes l.length l.length l with
  |none=>.error 3
  |some cs =>
   if cs.any zeh then .error 4 else
   match zgh cs with
   |none=>.error 5
   |some t =>
    if cs.all ze4 then
     if (zcx (t.length+1) t cs).2 then .ok (cs,(zcx (t.length+1) t cs).1) else .error 7
    else .error 6
def zgf(o:Except Int (List zab × List zar))(w:World)(e:Ending)(w':World):Prop :=
 Below w.heap.size w w'/\match o with
  |.error n=>e=.returned (.tuple #[.pointer none,.int .i64 n])
  |.ok (cs,t)=>∃ pb v pv,e=.returned (.tuple #[.pointer (some ⟨pb,0,none⟩),.int .i64 0])/\Box w' pb #[v,pv] 88/\CIn w.heap.size 90 w' v cs/\w'.ownsRow w.heap.size 138 3 pv t.length (zcc t)/\w.heap.size<=pb
theorem z5x(s:ByteArray)(w:World)(hs:s.size<=500)(h:splitB s=none):Calls Tryz.prog 37 #[.string s] w fun e w'=>e=.returned (.tuple #[.slice none 0 0,.bool false])/\Below w.heap.size w w':=by
 refine(zt5 s w hs).mono ?_
 rintro e w' ⟨h1,h2⟩
 rw[h] at h2
 exact⟨h2,h1⟩
theorem zhq(s:ByteArray)(w:World)(l:List Tok)(hs:s.size<=500)(h:splitB s=some l):Calls Tryz.prog 37 #[.string s] w fun e w'=>∃ v,e=.returned (.tuple #[v,.bool true])/\w'.ownsRow w.heap.size 129 2 v l.length (zgd l)/\l.length<=500/\Below w.heap.size w w':=by
 refine(zt5 s w hs).mono ?_
 rintro e w' ⟨h1,h2⟩
 rw[h] at h2
 obtain⟨v,a,b,c⟩:=h2
 exact⟨v,a,b,by omega,h1⟩
theorem z5m(w:World)(wv:Value)(l:List Tok)(base:Nat)(hw:w.ownsRow base 129 2 wv l.length (zgd l))(hl:l.length<=500)(h:zes l.length l.length l=none) :
  Calls Tryz.prog 38 #[wv] w fun e w'=>e=.returned (.tuple #[.slice none 0 0,.bool false])/\Below w.heap.size w w':=by
 refine(parse_any w wv l base hw hl).mono ?_
 rintro e w' ⟨h1,h2⟩
 rw[h] at h2
 exact⟨h2,h1⟩
theorem ziv(w:World)(wv:Value)(l:List Tok)(base:Nat)(cs:List zab)(hw:w.ownsRow base 129 2 wv l.length (zgd l))(hl:l.length<=500)(h:zes l.length l.length l=some cs) :
  Calls Tryz.prog 38 #[wv] w fun e w'=>∃ v,e=.returned (.tuple #[v,.bool true])/\CIn w.heap.size 90 w' v cs/\Below w.heap.size w w':=by
 refine(parse_any w wv l base hw hl).mono ?_
 rintro e w' ⟨h1,h2⟩
 rw[h] at h2
 obtain⟨v,a,b⟩:=h2
 exact⟨v,a,b,h1⟩
theorem zyc(w:World)(v:Value)(cs:List zab)(hcs:CIn lo 90 w v cs)(hN:(cs.flatMap za1).length<=1000)(h:zgh cs=none) :
  Calls Tryz.prog 40 #[v] w fun e w'=>e=.returned (.tuple #[.agg #[.slice none 0 0],.bool false])/\Below w.heap.size w w':=by
 refine(zni w v cs hcs hN).mono ?_
 rintro e w' ⟨h1,h2⟩
 rw[h] at h2
 exact⟨h2,h1⟩
theorem zj3(w:World)(v:Value)(cs:List zab)(t:List zar)(hcs:CIn lo 90 w v cs)(hN:(cs.flatMap za1).length<=1000)(h:zgh cs=some t) :
  Calls Tryz.prog 40 #[v] w fun e w'=>∃ pv,e=.returned (.tuple #[.agg #[pv],.bool true])/\w'.ownsRow w.heap.size 138 3 pv t.length (zcc t)/\Below w.heap.size w w':=by
 refine(zni w v cs hcs hN).mono ?_
 rintro e w' ⟨h1,h2⟩
 rw[h] at h2
 obtain⟨v,a,b⟩:=h2
 exact⟨v,a,b,h1⟩
theorem zsd(s:ByteArray)(w:World)(hs:500 < s.size)(hs2:s.size<=9223372036854775807) :
  Calls Tryz.prog 19 #[.string s] w fun e w'=>zgf (.error 1) w e w':=by
 go_enter Tryz.func19,Tryz.ntmps19
 go_wp2
 go_ret2
 exact⟨Below.refl _ _,rfl⟩
theorem z0t(s:ByteArray)(w:World)(hs:s.size<=500)(hS:splitB s=none) :
  Calls Tryz.prog 19 #[.string s] w fun e w'=>zgf (.error 2) w e w':=by
 have HS:Hid (splitB s=none):=hS
 clear hS
 go_enter Tryz.func19,Tryz.ntmps19
 go_wp2_with (first|(go_at_call 37;refine(z5x s _ hs HS).mono ?_;rintro e w1 ⟨rfl,hb1⟩))
 go_ret2
 exact⟨hb1,rfl⟩
theorem z0u(s:ByteArray)(w:World)(hs:s.size<=500)(l:List Tok)(hS:splitB s=some l)(hP:zes l.length l.length l=none) :
  Calls Tryz.prog 19 #[.string s] w fun e w'=>zgf (.error 3) w e w':=by
 have HS:Hid (splitB s=some l):=hS
 have HP:Hid (zes l.length l.length l=none):=hP
 clear hS hP
 go_enter Tryz.func19,Tryz.ntmps19
 go_wp2_with (first|(go_at_call 37;refine(zhq s _ l hs HS).mono ?_;rintro e w1 ⟨fv,rfl,hown,hll,hb1⟩;obtain⟨aof,capf,rfl⟩:=zac hown)|(go_at_call 38;refine(z5m _ _ l _ hown hll HP).mono ?_;rintro e w2 ⟨rfl,hb2⟩;have hB2:=zae hb1 hb2 (Nat.le_refl _)))
 go_ret2
 exact⟨hB2,rfl⟩
theorem z0v(s:ByteArray)(w:World)(hs:s.size<=500)(l:List Tok)(cs:List zab)(hm:cs.any zeh=true)(hS:splitB s=some l)(hP:zes l.length l.length l=some cs)(hok:∀ c∈cs,zoq c)(hlen:cs.length<=1000) :
  Calls Tryz.prog 19 #[.string s] w fun e w'=>zgf (.error 4) w e w':=by
 have HS:Hid (splitB s=some l):=hS
 have HP:Hid (zes l.length l.length l=some cs):=hP
 have HOK:Hid (∀ c∈cs,zoq c):=hok
 have HLEN:Hid (cs.length<=1000):=hlen
 clear hS hP hok hlen
 go_enter Tryz.func19,Tryz.ntmps19
 go_wp2_with (first|(go_at_call 37;refine(zhq s _ l hs HS).mono ?_;rintro e w1 ⟨fv,rfl,hown,hll,hb1⟩;obtain⟨aof,capf,rfl⟩:=zac hown)|(go_at_call 38;refine(ziv _ _ l _ cs hown hll HP).mono ?_;rintro e w2 ⟨cv,rfl,hcin,hb2⟩;obtain⟨aoc,capc,rfl⟩:=hcin.shape;have hB2:=zae hb1 hb2 (Nat.le_refl _))|(go_at_call 39;refine(zk2 _ _ cs hcin HOK.out HLEN.out).mono ?_;rintro e w3 ⟨rfl,hb3⟩;have hB3:=zae hB2 hb3 (Nat.le_refl _);have hcin3:=hcin.below hb3))
 go_ret2
 exact⟨hB3,rfl⟩
theorem z0w(s:ByteArray)(w:World)(hs:s.size<=500)(l:List Tok)(cs:List zab)(hm:cs.any zeh=false)(hS:splitB s=some l)(hP:zes l.length l.length l=some cs)(hok:∀ c∈cs,zoq c)(hlen:cs.length<=1000)(hlits:(cs.flatMap za1).length<=1000)(hC:zgh cs=none) :
  Calls Tryz.prog 19 #[.string s] w fun e w'=>zgf (.error 5) w e w':=by
 have HS:Hid (splitB s=some l):=hS
 have HP:Hid (zes l.length l.length l=some cs):=hP
 have HOK:Hid (∀ c∈cs,zoq c):=hok
 have HLEN:Hid (cs.length<=1000):=hlen
 have HLITS:Hid ((cs.flatMap za1).length<=1000):=hlits
 have HC:Hid (zgh cs=none):=hC
 clear hS hP hok hlen hlits hC
 go_enter Tryz.func19,Tryz.ntmps19
 go_wp2_with (first|(go_at_call 37;refine(zhq s _ l hs HS).mono ?_;rintro e w1 ⟨fv,rfl,hown,hll,hb1⟩;obtain⟨aof,capf,rfl⟩:=zac hown)|(go_at_call 38;refine(ziv _ _ l _ cs hown hll HP).mono ?_;rintro e w2 ⟨cv,rfl,hcin,hb2⟩;obtain⟨aoc,capc,rfl⟩:=hcin.shape;have hB2:=zae hb1 hb2 (Nat.le_refl _))|(go_at_call 39;refine(zk2 _ _ cs hcin HOK.out HLEN.out).mono ?_;rintro e w3 ⟨rfl,hb3⟩;have hB3:=zae hB2 hb3 (Nat.le_refl _);have hcin3:=hcin.below hb3)|(go_at_call 40;refine(zyc _ _ cs hcin3 HLITS.out HC).mono ?_;rintro e w4 ⟨rfl,hb4⟩;have hB4:=zae hB3 hb4 (Nat.le_refl _);have hz4:=hB4.size))
 go_ret2
 exact⟨(by go_grown),rfl⟩
theorem z0x(s:ByteArray)(w:World)(hs:s.size<=500)(l:List Tok)(cs:List zab)(t:List zar)(hm:cs.any zeh=false)(hsf:cs.all ze4=false)(hS:splitB s=some l)(hP:zes l.length l.length l=some cs)(hok:∀ c∈cs,zoq c)(hlen:cs.length<=1000)(hlits:(cs.flatMap za1).length<=1000)(hC:zgh cs=some t) :
  Calls Tryz.prog 19 #[.string s] w fun e w'=>zgf (.error 6) w e w':=by
 have HS:Hid (splitB s=some l):=hS
 have HP:Hid (zes l.length l.length l=some cs):=hP
 have HOK:Hid (∀ c∈cs,zoq c):=hok
 have HLEN:Hid (cs.length<=1000):=hlen
 have HLITS:Hid ((cs.flatMap za1).length<=1000):=hlits
 have HC:Hid (zgh cs=some t):=hC
 clear hS hP hok hlen hlits hC
 go_enter Tryz.func19,Tryz.ntmps19
 go_wp2_with (first|(go_at_call 37;refine(zhq s _ l hs HS).mono ?_;rintro e w1 ⟨fv,rfl,hown,hll,hb1⟩;obtain⟨aof,capf,rfl⟩:=zac hown)|(go_at_call 38;refine(ziv _ _ l _ cs hown hll HP).mono ?_;rintro e w2 ⟨cv,rfl,hcin,hb2⟩;obtain⟨aoc,capc,rfl⟩:=hcin.shape;have hB2:=zae hb1 hb2 (Nat.le_refl _))|(go_at_call 39;refine(zk2 _ _ cs hcin HOK.out HLEN.out).mono ?_;rintro e w3 ⟨rfl,hb3⟩;have hB3:=zae hB2 hb3 (Nat.le_refl _);have hcin3:=hcin.below hb3)|(go_at_call 40;refine(zj3 _ _ cs t hcin3 HLITS.out HC).mono ?_;rintro e w4 ⟨pv,rfl,hpo,hb4⟩;obtain⟨aop,capp,rfl⟩:=zac hpo;have hB4:=zae hB3 hb4 (Nat.le_refl _);have hz4:=hB4.size;have hcin4:=hcin3.below hb4)|(go_at_call 41;refine(zrh _ _ cs (by exact hcin4.below (by go_grown)) HOK.out HLEN.out).mono ?_;rintro e w5 ⟨rfl,hb5⟩;have hq5:=(Below.refl w4.heap.size w4).alloc (Nat.le_refl _) (.cells #[.slice aop t.length capp] 84);have hbb5:=zae hq5 hb5 (Nat.le_refl _);have hB5:=zae hB4 hbb5 (Nat.le_refl _)))
 go_ret2
 exact⟨hB5,rfl⟩
theorem z0y(s:ByteArray)(w:World)(hs:s.size<=500)(l:List Tok)(cs:List zab)(t:List zar)(hm:cs.any zeh=false)(hsf:cs.all ze4=true)(hst:(zcx (t.length+1) t cs).2=false)(hS:splitB s=some l)(hP:zes l.length l.length l=some cs)(hok:∀ c∈cs,zoq c)(hlen:cs.length<=1000)(hlits:(cs.flatMap za1).length<=1000)(hC:zgh cs=some t)(htl:t.length<=1000)(htz:∀ e∈t,e.stratum<=0) :
  Calls Tryz.prog 19 #[.string s] w fun e w'=>zgf (.error 7) w e w':=by
 have HS:Hid (splitB s=some l):=hS
 have HP:Hid (zes l.length l.length l=some cs):=hP
 have HOK:Hid (∀ c∈cs,zoq c):=hok
 have HLEN:Hid (cs.length<=1000):=hlen
 have HLITS:Hid ((cs.flatMap za1).length<=1000):=hlits
 have HC:Hid (zgh cs=some t):=hC
 have HTL:Hid (t.length<=1000):=htl
 have HTZ:Hid (∀ e∈t,e.stratum<=0):=htz
 clear hS hP hok hlen hlits hC htl htz
 go_enter Tryz.func19,Tryz.ntmps19
 go_wp2_with (first|(go_at_call 37;refine(zhq s _ l hs HS).mono ?_;rintro e w1 ⟨fv,rfl,hown,hll,hb1⟩;obtain⟨aof,capf,rfl⟩:=zac hown)|(go_at_call 38;refine(ziv _ _ l _ cs hown hll HP).mono ?_;rintro e w2 ⟨cv,rfl,hcin,hb2⟩;obtain⟨aoc,capc,rfl⟩:=hcin.shape;have hB2:=zae hb1 hb2 (Nat.le_refl _))|(go_at_call 39;refine(zk2 _ _ cs hcin HOK.out HLEN.out).mono ?_;rintro e w3 ⟨rfl,hb3⟩;have hB3:=zae hB2 hb3 (Nat.le_refl _);have hcin3:=hcin.below hb3)|(go_at_call 40;refine(zj3 _ _ cs t hcin3 HLITS.out HC).mono ?_;rintro e w4 ⟨pv,rfl,hpo,hb4⟩;obtain⟨aop,capp,rfl⟩:=zac hpo;have hB4:=zae hB3 hb4 (Nat.le_refl _);have hz4:=hB4.size;have hcin4:=hcin3.below hb4)|(go_at_call 41;refine(zrh _ _ cs (by exact hcin4.below (by go_grown)) HOK.out HLEN.out).mono ?_;rintro e w5 ⟨rfl,hb5⟩;have hq5:=(Below.refl w4.heap.size w4).alloc (Nat.le_refl _) (.cells #[.slice aop t.length capp] 84);have hbb5:=zae hq5 hb5 (Nat.le_refl _);have hB5:=zae hB4 hbb5 (Nat.le_refl _))|(go_at_call 42;refine(zmi w3.heap.size _ w4.heap.size t _ cs w3 rfl (zae hb4 hbb5 (Nat.le_refl _)) hcin3 HOK.out HLEN.out ⟨_,(Box.new w4 _ _).below hb5,zaa hpo hbb5⟩ HTL.out HTZ.out).mono ?_;rintro e w6 ⟨rfl,hta6,hb6⟩;obtain⟨ao6,cap6,hbx6,hown6⟩:=hta6.view;obtain⟨hc6,hf6⟩:=hbx6.rules;have hB6:Below w.heap.size w w6:=hB5.trans (hb6.mono (Nat.le_trans hB3.size (Nat.le_refl _)));have hz6:=hbx6.lt))
 go_ret2
 exact⟨hB6,rfl⟩
theorem z0s(s:ByteArray)(w:World)(hs:s.size<=500)(l:List Tok)(cs:List zab)(t:List zar)(hm:cs.any zeh=false)(hsf:cs.all ze4=true)(hst:(zcx (t.length+1) t cs).2=true)(hS:splitB s=some l)(hP:zes l.length l.length l=some cs)(hok:∀ c∈cs,zoq c)(hlen:cs.length<=1000)(hlits:(cs.flatMap za1).length<=1000)(hC:zgh cs=some t)(htl:t.length<=1000)(htz:∀ e∈t,e.stratum<=0) :
  Calls Tryz.prog 19 #[.string s] w fun e w'=>zgf (.ok (cs,(zcx (t.length+1) t cs).1)) w e w':=by
 have HS:Hid (splitB s=some l):=hS
 have HP:Hid (zes l.length l.length l=some cs):=hP
 have HOK:Hid (∀ c∈cs,zoq c):=hok
 have HLEN:Hid (cs.length<=1000):=hlen
 have HLITS:Hid ((cs.flatMap za1).length<=1000):=hlits
 have HC:Hid (zgh cs=some t):=hC
 have HTL:Hid (t.length<=1000):=htl
 have HTZ:Hid (∀ e∈t,e.stratum<=0):=htz
 clear hS hP hok hlen hlits hC htl htz
 go_enter Tryz.func19,Tryz.ntmps19
 go_wp2_with (first|(go_at_call 37;refine(zhq s _ l hs HS).mono ?_;rintro e w1 ⟨fv,rfl,hown,hll,hb1⟩;obtain⟨aof,capf,rfl⟩:=zac hown)|(go_at_call 38;refine(ziv _ _ l _ cs hown hll HP).mono ?_;rintro e w2 ⟨cv,rfl,hcin,hb2⟩;obtain⟨aoc,capc,rfl⟩:=hcin.shape;have hB2:=zae hb1 hb2 (Nat.le_refl _))|(go_at_call 39;refine(zk2 _ _ cs hcin HOK.out HLEN.out).mono ?_;rintro e w3 ⟨rfl,hb3⟩;have hB3:=zae hB2 hb3 (Nat.le_refl _);have hcin3:=hcin.below hb3)|(go_at_call 40;refine(zj3 _ _ cs t hcin3 HLITS.out HC).mono ?_;rintro e w4 ⟨pv,rfl,hpo,hb4⟩;obtain⟨aop,capp,rfl⟩:=zac hpo;have hB4:=zae hB3 hb4 (Nat.le_refl _);have hz4:=hB4.size;have hcin4:=hcin3.below hb4)|(go_at_call 41;refine(zrh _ _ cs (by exact hcin4.below (by go_grown)) HOK.out HLEN.out).mono ?_;rintro e w5 ⟨rfl,hb5⟩;have hq5:=(Below.refl w4.heap.size w4).alloc (Nat.le_refl _) (.cells #[.slice aop t.length capp] 84);have hbb5:=zae hq5 hb5 (Nat.le_refl _);have hB5:=zae hB4 hbb5 (Nat.le_refl _))|(go_at_call 42;refine(zmi w3.heap.size _ w4.heap.size t _ cs w3 rfl (zae hb4 hbb5 (Nat.le_refl _)) hcin3 HOK.out HLEN.out ⟨_,(Box.new w4 _ _).below hb5,zaa hpo hbb5⟩ HTL.out HTZ.out).mono ?_;rintro e w6 ⟨rfl,hta6,hb6⟩;obtain⟨ao6,cap6,hbx6,hown6⟩:=hta6.view;obtain⟨hc6,hf6⟩:=hbx6.rules;have hB6:Below w.heap.size w w6:=hB5.trans (hb6.mono (Nat.le_trans hB3.size (Nat.le_refl _)));have hz6:=hbx6.lt))
 have hz66:=hB6.size
 have hcin6:=hcin3.below ((zae hb4 hbb5 (Nat.le_refl _)).trans hb6)
 go_ret2
 exact⟨(by go_grown),w6.heap.size,_,_,rfl,Box.new _ _ _,(hcin6.low hb1.size).below ((Below.refl _ _).alloc (Nat.le_refl _) _),zbe (zaa hown6 ((Below.refl _ _).alloc (Nat.le_refl _) _)) hB3.size,hz66⟩
theorem z7c(s:ByteArray)(w:World)(hs2:s.size<=9223372036854775807) :
  Calls Tryz.prog 19 #[.string s] w fun e w'=>zgf (z4m s) w e w':=by
 unfold z4m
 split
 ·rename_i hs;exact zsd s w hs hs2
 ·rename_i hs
  have hs':s.size<=500:=by omega
  split
  ·rename_i hS;exact z0t s w hs' hS
  ·rename_i l hS
   split
   ·rename_i hP;exact z0u s w hs' l hS hP
   ·rename_i cs hP
    have hl:l.length<=500:=by
     have:=zqf hS;omega
    have hw:=zvv hP
    have hok:=z6n (cs:=cs) (by omega)
    have hlen:cs.length<=1000:=by have:=z2p cs;omega
    have hlits:(cs.flatMap za1).length<=1000:=by have:=zxi cs;omega
    split
    ·rename_i hm;exact z0v s w hs' l cs hm hS hP hok hlen
    ·rename_i hm
     have hm':cs.any zeh=false:=by simpa using hm
     split
     ·rename_i hC;exact z0w s w hs' l cs hm' hS hP hok hlen hlits hC
     ·rename_i t hC
      have htl:t.length<=1000:=by have:=zqs _ _ _ hC;simp only[List.length_nil] at this;omega
      have htz:∀ e∈t,e.stratum<=0:=znb _ [] (by simp) t hC
      split
      ·rename_i hsf
       split
       ·rename_i hst;exact z0s s w hs' l cs t hm' hsf hst hS hP hok hlen hlits hC htl htz
       ·rename_i hst;exact z0y s w hs' l cs t hm' hsf (by simpa using hst) hS hP hok hlen hlits hC htl htz
      ·rename_i hsf;exact z0x s w hs' l cs t hm' (by simpa using hsf) hS hP hok hlen hlits hC
def TP(B:Nat)(w:World)(tb:Nat)(t:List zar):Prop:=∃ cv pv,Box w tb #[cv,pv] 88/\w.ownsRow B 138 3 pv t.length (zcc t)
theorem TP.view{B:Nat}{w:World}{tb:Nat}{t:List zar}(h:TP B w tb t):∃ cv ao cap,Box w tb #[cv,.slice ao t.length cap] 88/\w.ownsRow B 138 3 (.slice ao t.length cap) t.length (zcc t):=by
 obtain⟨cv,nv,h1,h2⟩:=h
 obtain⟨ao,cap,rfl⟩:=zac h2
 exact⟨cv,ao,cap,h1,h2⟩
theorem zzd(B:Nat)(w:World)(tb:Nat)(t:List zar)(n:ByteArray)(h:TP B w tb t)(hl:t.length<=1000) :
  Calls Tryz.prog 78 #[.pointer (some ⟨tb,1,none⟩),.string n] w fun e w'=>e=.returned (.int .i64 (zai t n))/\w'=w:=by
 obtain⟨cv,ao,cap,hbx,hown⟩:=h.view
 obtain⟨hc,hf⟩:=hbx.rules
 clear h
 go_enter Tryz.func78,Tryz.ntmps78
 go_wp2
 go_loop [5] (fun i=>∃ k:Nat,k<=t.length/\i=.int .i64 k/\Hid (∀ j (hj:j < t.length),j < k->ltB t[j].name n=true)) (fun i=>t.length - (intOf i).toNat)
 case atStart=>exact⟨0,Nat.zero_le _,rfl,fun j hj h=>by omega⟩
 case round =>
  obtain⟨k,hk,rfl,H⟩:=hrel
  by_cases hlt:k < t.length
  ·obtain⟨g,rfl,hg,_,hd0,_,_⟩:=zc7 hown k hlt
   cases hL:ltB t[k].name n with
   |true =>
    have H2:Hid (∀ j (hj:j < t.length),j < k+1->ltB t[j].name n=true):=fun j hj h=>by
     rcases Nat.lt_or_ge j k with h'|h'
     ·exact H.out j hj h'
     ·obtain rfl:j=k:=by omega
      exact hL
    unfold ltB at hL
    generalize t[k].name=x at *
    clear H
    go_wp2
    go_round
    case rel=>exact⟨k+1,by omega,by go_num,H2⟩
    case measure=>simp[intOf];omega
   |false =>
    have H2:Hid (zai t n=k):=zkb t n k H.out hlt hL
    unfold ltB at hL
    generalize t[k].name=x at *
    clear H
    go_wp2
    go_ret
    exact⟨by rw[H2.out];rfl,rfl⟩
  ·have H2:Hid (zai t n=k):=by
    have:=zl0 t n (fun j hj=>H.out j hj (by omega));unfold Hid;omega
   clear H
   go_wp2
   go_ret
   exact⟨by rw[H2.out];rfl,rfl⟩
theorem z2o(B:Nat)(w:World)(tb:Nat)(t:List zar)(n:ByteArray)(e0:zar)(h:TP B w tb t)(hl:t.length<=1000)(hn:zbb t n=some e0) :
  Calls Tryz.prog 50 #[.pointer (some ⟨tb,1,none⟩),.string n] w fun e w'=>e=.returned (.tuple #[.int .i64 (zai t n),.bool true])/\w'=w:=by
 have hpl:=zzd B w tb t n h hl
 obtain⟨cv,ao,cap,hbx,hown⟩:=h.view
 obtain⟨hc,hf⟩:=hbx.rules
 have HPL:Hid (Calls Tryz.prog 78 #[.pointer (some ⟨tb,1,none⟩),.string n] w fun e w'=>e=.returned (.int .i64 (zai t n))/\w'=w):=hpl
 have hle:=zey t n
 clear h hpl
 obtain⟨hk,hee,hnn⟩:=zby hn
 obtain⟨g,rfl,hg,_,hd0,_,hd2⟩:=zc7 hown _ hk
 rw[hee] at hd0 hd2
 have he:=zf0 hnn
 clear hn hnn hee
 generalize e0.name=x at *
 generalize zai t n=k at *
 go_enter Tryz.func50,Tryz.ntmps50
 go_wp2_with (first|(go_at_call 78;refine HPL.out.mono ?_;rintro e w' ⟨rfl,rfl⟩;clear HPL))
 go_ret2
 exact⟨rfl,rfl⟩
theorem ztx(B:Nat)(w:World)(tb:Nat)(t:List zar)(n:ByteArray)(e0:zar)(h:TP B w tb t)(hl:t.length<=1000)(hn:zbb t n=some e0) :
  Calls Tryz.prog 56 #[.pointer (some ⟨tb,1,none⟩),.string n] w fun e w'=>e=.returned (.tuple #[.int .i64 e0.stratum,.bool true])/\w'=w:=by
 have HF:Hid (Calls Tryz.prog 50 #[.pointer (some ⟨tb,1,none⟩),.string n] w fun e w'=>e=.returned (.tuple #[.int .i64 (zai t n),.bool true])/\w'=w):=z2o B w tb t n e0 h hl hn
 obtain⟨cv,ao,cap,hbx,hown⟩:=h.view
 obtain⟨hc,hf⟩:=hbx.rules
 obtain⟨hk,hee,hnn⟩:=zby hn
 obtain⟨g,rfl,hg,_,hd0,_,hd2⟩:=zc7 hown _ hk
 rw[hee] at hd2
 clear hn hnn hee h hd0
 generalize zai t n=k at *
 go_enter Tryz.func56,Tryz.ntmps56
 go_wp2_with (first|(go_at_call 50;refine HF.out.mono ?_;rintro e w' ⟨rfl,rfl⟩;clear HF))
 go_ret2
 exact⟨rfl,rfl⟩
end Go.Proofs.YteampbddflhngabGreat

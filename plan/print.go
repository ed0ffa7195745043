package plan

import (
	"strconv"

	"tallyhouse/api"
	"tallyhouse/token"
)

// planText: the text of a plan that is built.
func planText(p api.Plan) string {
	parts := []string{word(planWords, p.Op)}
	switch p.Op {
	case api.Scan:
		parts = append(parts, p.Table)
	case api.Filter, api.Join, api.LeftJoin:
		parts = append(parts, exprText(p.Exprs[0]))
	case api.Project:
		parts = append(parts, listText(p.Exprs, exprText))
	case api.Group:
		parts = append(parts, listText(p.Cols, strconv.Itoa), listText(p.Aggs, aggText))
	case api.Top:
		parts = append(parts, listText(p.Keys, keyText), strconv.Itoa(p.N), strconv.Itoa(p.Off))
	case api.Window:
		parts = append(parts, word(windowWords, p.Fn), strconv.Itoa(p.Col), strconv.Itoa(p.N), listText(p.Cols, strconv.Itoa), listText(p.Keys, keyText))
	case api.Empty:
		parts = append(parts, listText(p.Cols, kindText))
	}
	return token.Listed(append(parts, texts(p.Args, planText)...))
}

func exprText(e api.Expr) string {
	switch e.Op {
	case api.Col:
		return columnMark + strconv.Itoa(e.N)
	case api.Const:
		return valueText(e.V)
	}
	return token.Listed(append([]string{word(exprWords, e.Op-api.Neg+1)}, texts(e.Args, exprText)...))
}

func valueText(v api.Value) string {
	switch v.Kind {
	case api.Int:
		return strconv.FormatInt(v.N, 10)
	case api.Text:
		return token.Quoted(v.S)
	}
	return nullWord
}

func aggText(a api.Agg) string {
	return token.Listed([]string{word(aggWords, a.Fn), strconv.Itoa(a.Col)})
}

func keyText(k api.Key) string {
	if k.Desc {
		return token.Listed([]string{descWord, strconv.Itoa(k.Col)})
	}
	return strconv.Itoa(k.Col)
}

func kindText(kind int) string { return word(kindWords, kind) }

func listText[T any](list []T, text func(T) string) string { return token.Listed(texts(list, text)) }

func texts[T any](list []T, text func(T) string) []string {
	all := make([]string, len(list))
	for i, one := range list {
		all[i] = text(one)
	}
	return all
}

package job

import "streamwright/api"

// reserved tells whether a word of jobs can be no name.
func reserved(word string) bool {
	switch word {
	case "stream", "sink", "late", "where", "select", "by", "in", "give", "join", "outer", "on", "union",
		"tumble", "slide", "every", "session", "whole", "nothing":
		return true
	}
	return false
}

// columnKinds has the words for kinds of columns.
func columnKinds() map[string]api.Kind {
	return map[string]api.Kind{"int": api.Int, "bool": api.Bool, "text": api.Text}
}

// windowKinds has the words for kinds of windows.
func windowKinds() map[string]int {
	return map[string]int{"tumble": api.Tumble, "slide": api.Slide, "session": api.Session, "whole": api.Whole}
}

// folds has the words for ways of taking values together.
func folds() map[string]int {
	return map[string]int{
		"count": api.Count, "sum": api.Sum, "min": api.Min, "max": api.Max,
		"first": api.First, "last": api.Last, "distinct": api.Distinct,
	}
}

// wordFor gives the word that says a thing.
func wordFor[T comparable](words map[string]T, said T) string {
	// No two words say the same, so that the order does not matter.
	for word, one := range words {
		if one == said {
			return word
		}
	}
	return ""
}
